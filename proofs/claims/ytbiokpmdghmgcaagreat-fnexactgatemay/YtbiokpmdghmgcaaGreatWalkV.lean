import Derived.Test.YtbiokpmdghmgcaaGreatProg
import Derived.RowKit
import Derived.WalkKit
import Derived.WalkSpells
import Derived.WalkLawsBesides
import Derived.Deep.RegionWith
import Derived.BigQuiet
import Derived.Deep.QuietTactic
import Derived.Deep.Light
import Derived.Test.YtbiokpmdghmgcaaGreatWalkP
import Derived.Test.YtbiokpmdghmgcaaGreatPlainC
namespace Go.Proofs.YtbiokpmdghmgcaaGreat
set_option maxHeartbeats 40000000
open Go.RowKit
theorem bc (n lo hi:Int) (w:World):
  Calls Tryz.prog 25 #[.int .i64 n,.int .i64 lo,.int .i64 hi] w fun e w'=>e=.returned (.bool (decide (lo≤n)&&decide (n≤hi)))∧w=w':=by
 by_cases h:lo≤n
 ·go_enter Tryz.func25,Tryz.ntmps25
  go_wp2;go_ret;exact⟨Pl.ae (by simp[h]),rfl⟩
 ·go_enter Tryz.func25,Tryz.ntmps25
  go_wp2;go_ret;exact⟨Pl.ae (by rw[Bool.eq_iff_iff];simp;omega),rfl⟩
theorem jX (c:UInt8) (w:World):
  Calls Tryz.prog 125 #[.int .u8 c.toNat] w fun e w'=>e=.returned (.bool (Pl.cK c))∧w=w':=by
 go_enter Tryz.func125,Tryz.ntmps125
 go_wp2
 all_goals go_ret
 all_goals exact⟨Pl.ae (by rw[Bool.eq_iff_iff];simp[Pl.cK];omega),rfl⟩
theorem aG (s:ByteArray) (w:World) (hs:s.size≤maxLen):
  Calls Tryz.prog 68 #[.string s] w fun e w'=>e=.returned (.bool (Pl.aq s))∧w=w':=by
 unfold maxLen at hs;by_cases bA:1≤s.size∧s.size≤16
 ·obtain⟨h1,h2⟩:=bA;have hb:(decide ((1:Int)≤(s.size:Int))&&decide ((s.size:Int)≤16))=true:=by simp;omega
  go_enter Tryz.func68,Tryz.ntmps68
  go_wp2_with (go_at_call 25;refine(bc _ _ _ _).mono ?_;rintro e w' ⟨rfl,rfl⟩)
  go_loop [3] (fun i=>∃ k:Nat,k≤s.size∧i=.int .i64 k∧(s.data.toList.take k).all Pl.cK=true) (fun i=>s.size - (intOf i).toNat)
  case atStart=>exact⟨0,nz,rfl,rfl⟩
  case round=>
   obtain⟨k,hk,rfl,aw⟩:=hrel;have HA:=hid aw;clear aw;by_cases av:k<s.size
   ·by_cases hn:Pl.cK s[k]=true
    ·go_wp2_with (go_at_call 125;refine(jX _ _).mono ?_;rintro e w' ⟨rfl,rfl⟩)
     go_round
     case rel=>exact⟨k+1,by omega,by go_num,by rw[Pl.gR _ _ _ av,HA.out,hn];rfl⟩
     case measure=>simp[intOf];omega
    ·have zl:Pl.cK s[k]=false:=by simpa using hn
     have HF:Hid (Pl.aq s=false):=by show _=_;simp[Pl.aq,Pl.nameBytes,Pl.all_false _ s k av zl]
     go_wp2_with (go_at_call 125;refine(jX _ _).mono ?_;rintro e w' ⟨rfl,rfl⟩)
     go_ret;exact⟨Pl.ae HF.out.symm,rfl⟩
   ·have HF:Hid (Pl.aq s=true):=by
     show Pl.aq s=true;have:=Pl.jy Pl.cK s k (by omega);simp only[Pl.aq,Pl.nameBytes,← this,HA.out];simp;omega
    go_wp2;go_ret;exact⟨Pl.ae HF.out.symm,rfl⟩
 ·have HF:Hid (Pl.aq s=false):=by
   show Pl.aq s=false;have:(decide (1≤s.size)&&decide (s.size≤16))=false:=by
    rw[Bool.eq_false_iff];simp;omega
   simp[Pl.aq,this]
  have hb:(decide ((1:Int)≤(s.size:Int))&&decide ((s.size:Int)≤16))=false:=by
   rw[Bool.eq_false_iff];simp;omega
  clear bA;go_enter Tryz.func68,Tryz.ntmps68
  go_wp2_with (go_at_call 25;refine(bc _ _ _ _).mono ?_;rintro e w' ⟨rfl,rfl⟩)
  go_ret;exact⟨Pl.ae HF.out.symm,rfl⟩
theorem aW (s:ByteArray) (w:World) (hs:s.size≤maxLen):
  Calls Tryz.prog 145 #[.string s] w fun e w'=>e=.returned (.bool (Pl.nameBytes s))∧w=w':=by
 unfold maxLen at hs;go_enter Tryz.func145,Tryz.ntmps145
 go_wp2;go_loop [7] (fun i=>∃ k:Nat,k≤s.size∧i=.int .i64 k∧(s.data.toList.take k).all Pl.cK=true) (fun i=>s.size - (intOf i).toNat)
 case atStart=>exact⟨0,nz,rfl,rfl⟩
 case round=>
  obtain⟨k,hk,rfl,aw⟩:=hrel;have HA:=hid aw;clear aw;by_cases av:k<s.size
  ·go_wp2
   all_goals simp only[Bool.not_eq_eq_eq_not,Bool.not_true,Bool.not_false,beq_iff_eq,beq_eq_false_iff_ne,decide_eq_true_eq,decide_eq_false_iff_not]at*
   all_goals first
    |(go_ret
      have hn:Pl.cK s[k]=false:=by rw[Bool.eq_false_iff];simp[Pl.cK];omega
      exact⟨Pl.ae (Pl.all_false _ s k av hn).symm,rfl⟩)
    |(have hn:Pl.cK s[k]=true:=by simp[Pl.cK];omega
      go_round
      case rel=>exact⟨k+1,by omega,by go_num,by rw[Pl.gR _ _ _ av,HA.out,hn];rfl⟩
      case measure=>simp[intOf];omega)
  ·have HF:Hid (Pl.nameBytes s=true):=by
    show Pl.nameBytes s=true;have:=Pl.jy Pl.cK s k (by omega);simp only[Pl.nameBytes,← this,HA.out]
   go_wp2;go_ret;exact⟨Pl.ae HF.out.symm,rfl⟩
theorem aJ (s:ByteArray) (w:World) (hs:s.size≤maxLen):
  Calls Tryz.prog 89 #[.string s] w fun e w'=>e=.returned (.bool (Pl.aq s))∧w=w':=by
 have yY:=hs;unfold maxLen at hs;by_cases h1:1≤s.size
 ·by_cases h2:s.size≤16
  ·have HF:Hid (Pl.aq s=Pl.nameBytes s):=by show _=_;simp[Pl.aq,h1,h2]
   go_enter Tryz.func89,Tryz.ntmps89
   go_wp2_with (go_at_call 145;refine(aW _ _ yY).mono ?_;rintro e w' ⟨rfl,rfl⟩)
   go_ret;exact⟨Pl.ae HF.out.symm,rfl⟩
  ·have HF:Hid (Pl.aq s=false):=by show _=_;simp[Pl.aq,h2]
   go_enter Tryz.func89,Tryz.ntmps89
   go_wp2;go_ret;exact⟨Pl.ae HF.out.symm,rfl⟩
 ·have HF:Hid (Pl.aq s=false):=by show _=_;simp[Pl.aq,h1]
  go_enter Tryz.func89,Tryz.ntmps89
  go_wp2;go_ret;exact⟨Pl.ae HF.out.symm,rfl⟩
theorem l3 {a b:Int} {c d:Bool} (h:a=b) (g:c=d):Ending.returned (.tuple #[.int .i64 a,.bool c])=.returned (.tuple #[.int .i64 b,.bool d]):=by rw[h,g]
def dL (s:ByteArray):Int:=if Pl.dU s then Pl.cO s.data.toList else 0
theorem qV (s:ByteArray) (w:World) (h1:1≤s.size) (h7:s.size≤7) (hl:Pl.lead s=false):
  Calls Tryz.prog 209 #[.string s] w fun e w'=>e=.returned (.tuple #[.int .i64 (dL s),.bool (Pl.dU s)])∧w=w':=by
 have KC:=Pl.fK s h1;have HN:=hid hl;have HB:Hid ((s[0].toNat:Int)=48→(s.toList==[48])=true):=by
  intro h0;rw[Pl.nG s (by omega),Pl.lV]at hl;have fe:¬ 1<s.size:=by
   intro h2;simp[h2]at hl;omega
  refine Pl.Bo s (by omega) 48 ?_;rw[Pl.head_eq s (by omega)];have:s[0].toNat=48:=by omega
  exact UInt8.toNat_inj.1 (by simpa using this)
 clear hl;have hd7:decide ((7:Int)<(s.size:Int))=false:=by simp;omega
 have H0:Hid ((((s[0].toNat:Int)==48)=true∧(s.toList==[48])=true)∨((s[0].toNat:Int)==48)=false):=by
  by_cases h0:(s[0].toNat:Int)=48
  ·exact Or.inl ⟨by simp[h0],HB.out h0⟩
  ·exact Or.inr (by simp[h0])
 clear HB;rcases H0.out with⟨h0b,hb⟩|h0b
 all_goals
  clear H0;go_enter Tryz.func209,Tryz.ntmps209
  go_wp2;go_loop [4,24] (fun n i=>∃ k:Nat,k≤s.size∧i=.int .i64 k∧n=.int .i64 (Pl.cO (s.data.toList.take k))∧(s.data.toList.take k).all Pl.digit=true) (fun _ i=>s.size - (intOf i).toNat)
  case atStart=>exact⟨0,nz,rfl,rfl,rfl⟩
  case round=>
   obtain⟨k,hk,rfl,rfl,aw⟩:=hrel;have GH:=Pl.hN s k hk (by omega) aw;obtain⟨b1,b2⟩:=GH;have HA:=hid aw;clear aw;by_cases av:k<s.size
   ·have HS:=hid (Pl.kf s k av);by_cases hd:48≤(s[k].toNat:Int)∧(s[k].toNat:Int)≤57
    ·obtain⟨d1,d2⟩:=hd;go_wp2;go_round
     case rel=>exact⟨k+1,by omega,by go_num,by rw[HS.out],by rw[Pl.gR _ _ _ av,HA.out];simp[Pl.digit];omega⟩
     case measure=>simp[intOf];omega
    ·have HF:Hid (Pl.dU s=false):=by
      show Pl.dU s=false;have:s.data.toList.all Pl.digit=false:=Pl.all_false _ s k av (by rw[Bool.eq_false_iff];simp[Pl.digit];omega);simp[Pl.dU,this]
     by_cases hd1:48≤(s[k].toNat:Int)
     all_goals
      go_wp2;go_ret2;exact⟨l3 (by simp[dL,HF.out]) HF.out.symm,rfl⟩
   ·have HF:Hid (Pl.dU s=true∧Pl.cO s.data.toList=Pl.cO (s.data.toList.take k)):=by
     show Pl.dU s=true∧Pl.cO s.data.toList=Pl.cO (s.data.toList.take k);have e:s.data.toList.take k=s.data.toList:=List.take_of_length_le (by simp;omega);have ha:=HA.out;rw[e]at ha ⊢;refine⟨?_,rfl⟩;simp[Pl.dU,ha,HN.out];omega
    go_wp2;go_ret2;exact⟨l3 (by simp[dL,HF.out.1,HF.out.2]) HF.out.1.symm,rfl⟩
theorem kk (s:ByteArray) (w:World) (hs:s.size≤maxLen):
  Calls Tryz.prog 209 #[.string s] w fun e w'=>e=.returned (.tuple #[.int .i64 (dL s),.bool (Pl.dU s)])∧w=w':=by
 unfold maxLen at hs;by_cases h1:1≤s.size
 ·have KC:=Pl.fK s h1;by_cases h7:s.size≤7
  ·cases hl:Pl.lead s
   ·exact qV s w h1 h7 hl
   ·have HF:Hid (Pl.dU s=false):=by show _=_;simp[Pl.dU,hl]
    have hd7:decide ((7:Int)<(s.size:Int))=false:=by simp;omega
    rw[Pl.nG s (by omega),Pl.lV]at hl;simp only[Bool.and_eq_true,decide_eq_true_eq]at hl;obtain⟨h2,h0⟩:=hl;have h0':((s[0].toNat:Int)==48)=true:=h0;have hb:=Pl.uf s h2 48;clear h0;go_enter Tryz.func209,Tryz.ntmps209
    go_wp2;go_ret2;exact⟨l3 (by simp[dL,HF.out]) HF.out.symm,rfl⟩
  ·have HF:Hid (Pl.dU s=false):=by show _=_;simp[Pl.dU,h7]
   have hd7:decide ((7:Int)<(s.size:Int))=true:=by simp;omega
   go_enter Tryz.func209,Tryz.ntmps209
   go_wp2;go_ret2;exact⟨l3 (by simp[dL,HF.out]) HF.out.symm,rfl⟩
 ·have HF:Hid (Pl.dU s=false):=by show _=_;simp[Pl.dU,h1]
  have KC:=Pl.gF s h1;go_enter Tryz.func209,Tryz.ntmps209
  go_wp2;go_ret2;exact⟨l3 (by simp[dL,HF.out]) HF.out.symm,rfl⟩
theorem nP (W:World) (o:Obj):(Instr.makeMap 273 none).run Tryz.prog (W.alloc o)=.ok (.map (some (W.heap.size+1))) ((W.alloc o).alloc (.map #[] 0)):=by
 rw[run_makeMap];simp[World.size_alloc]
theorem AZ (w:World) (o:Obj) (f:Value):(Instr.mapUpdate 273 (.map (some (w.heap.size+1))) (.int .i64 1) f).run Tryz.prog ((w.alloc o).alloc (.map #[] 0))=.ok () ((w.alloc o).alloc (.map #[⟨.int .i64 1,f,0⟩] 1)):=
 nE (w.alloc o) _ (by simp) #[] 0 1 f rfl
theorem zY (w:World) (o:Obj) (f1 f:Value):(Instr.mapUpdate 273 (.map (some (w.heap.size+1))) (.int .i64 2) f).run Tryz.prog ((w.alloc o).alloc (.map #[⟨.int .i64 1,f1,0⟩] 1))=.ok () ((w.alloc o).alloc (.map #[⟨.int .i64 1,f1,0⟩,⟨.int .i64 2,f,1⟩] 2)):=
 nE (w.alloc o) _ (by simp) #[⟨.int .i64 1,f1,0⟩] 1 2 f rfl
theorem zw (w:World) (o:Obj) (f1 f2 f:Value):(Instr.mapUpdate 273 (.map (some (w.heap.size+1))) (.int .i64 3) f).run Tryz.prog ((w.alloc o).alloc (.map #[⟨.int .i64 1,f1,0⟩,⟨.int .i64 2,f2,1⟩] 2))=.ok () ((w.alloc o).alloc (.map #[⟨.int .i64 1,f1,0⟩,⟨.int .i64 2,f2,1⟩,⟨.int .i64 3,f,2⟩] 3)):=
 nE (w.alloc o) _ (by simp) #[⟨.int .i64 1,f1,0⟩,⟨.int .i64 2,f2,1⟩] 2 3 f rfl
theorem Bn (w:World) (o:Obj) (f1 f2 f3 f:Value):(Instr.mapUpdate 273 (.map (some (w.heap.size+1))) (.int .i64 4) f).run Tryz.prog ((w.alloc o).alloc (.map #[⟨.int .i64 1,f1,0⟩,⟨.int .i64 2,f2,1⟩,⟨.int .i64 3,f3,2⟩] 3))=.ok () ((w.alloc o).alloc (.map #[⟨.int .i64 1,f1,0⟩,⟨.int .i64 2,f2,1⟩,⟨.int .i64 3,f3,2⟩,⟨.int .i64 4,f,3⟩] 4)):=
 nE (w.alloc o) _ (by simp) #[⟨.int .i64 1,f1,0⟩,⟨.int .i64 2,f2,1⟩,⟨.int .i64 3,f3,2⟩] 3 4 f rfl
theorem IA (w:World) (o:Obj) (f1 f2 f3 f4:Value):(Instr.lookup 273 (.map (some (w.heap.size+1))) (.int .i64 1) true).run Tryz.prog ((w.alloc o).alloc (.map #[⟨.int .i64 1,f1,0⟩,⟨.int .i64 2,f2,1⟩,⟨.int .i64 3,f3,2⟩,⟨.int .i64 4,f4,3⟩] 4))=.ok (.tuple #[f1,.bool true]) ((w.alloc o).alloc (.map #[⟨.int .i64 1,f1,0⟩,⟨.int .i64 2,f2,1⟩,⟨.int .i64 3,f3,2⟩,⟨.int .i64 4,f4,3⟩] 4)):=
 lR (w.alloc o) _ (by simp) _ 4 1 0 f1 rfl
theorem Is (w:World) (o:Obj) (f1 f2 f3 f4:Value):(Instr.lookup 273 (.map (some (w.heap.size+1))) (.int .i64 2) true).run Tryz.prog ((w.alloc o).alloc (.map #[⟨.int .i64 1,f1,0⟩,⟨.int .i64 2,f2,1⟩,⟨.int .i64 3,f3,2⟩,⟨.int .i64 4,f4,3⟩] 4))=.ok (.tuple #[f2,.bool true]) ((w.alloc o).alloc (.map #[⟨.int .i64 1,f1,0⟩,⟨.int .i64 2,f2,1⟩,⟨.int .i64 3,f3,2⟩,⟨.int .i64 4,f4,3⟩] 4)):=
 lR (w.alloc o) _ (by simp) _ 4 2 1 f2 rfl
theorem Iw (w:World) (o:Obj) (f1 f2 f3 f4:Value):(Instr.lookup 273 (.map (some (w.heap.size+1))) (.int .i64 3) true).run Tryz.prog ((w.alloc o).alloc (.map #[⟨.int .i64 1,f1,0⟩,⟨.int .i64 2,f2,1⟩,⟨.int .i64 3,f3,2⟩,⟨.int .i64 4,f4,3⟩] 4))=.ok (.tuple #[f3,.bool true]) ((w.alloc o).alloc (.map #[⟨.int .i64 1,f1,0⟩,⟨.int .i64 2,f2,1⟩,⟨.int .i64 3,f3,2⟩,⟨.int .i64 4,f4,3⟩] 4)):=
 lR (w.alloc o) _ (by simp) _ 4 3 2 f3 rfl
theorem IQ (w:World) (o:Obj) (f1 f2 f3 f4:Value):(Instr.lookup 273 (.map (some (w.heap.size+1))) (.int .i64 4) true).run Tryz.prog ((w.alloc o).alloc (.map #[⟨.int .i64 1,f1,0⟩,⟨.int .i64 2,f2,1⟩,⟨.int .i64 3,f3,2⟩,⟨.int .i64 4,f4,3⟩] 4))=.ok (.tuple #[f4,.bool true]) ((w.alloc o).alloc (.map #[⟨.int .i64 1,f1,0⟩,⟨.int .i64 2,f2,1⟩,⟨.int .i64 3,f3,2⟩,⟨.int .i64 4,f4,3⟩] 4)):=
 lR (w.alloc o) _ (by simp) _ 4 4 3 f4 rfl
theorem IN (w:World) (o:Obj) (f1 f2 f3 f4:Value) (n:Int) (h1:(n==1)=false) (h2:(n==2)=false) (h3:(n==3)=false) (h4:(n==4)=false):
  (Instr.lookup 273 (.map (some (w.heap.size+1))) (.int .i64 n) true).run Tryz.prog ((w.alloc o).alloc (.map #[⟨.int .i64 1,f1,0⟩,⟨.int .i64 2,f2,1⟩,⟨.int .i64 3,f3,2⟩,⟨.int .i64 4,f4,3⟩] 4))=.ok (.tuple #[.nilFunc,.bool false]) ((w.alloc o).alloc (.map #[⟨.int .i64 1,f1,0⟩,⟨.int .i64 2,f2,1⟩,⟨.int .i64 3,f3,2⟩,⟨.int .i64 4,f4,3⟩] 4)):=
 yg (w.alloc o) _ (by simp) _ 4 n (by simp[Instr.findNow,Instr.sameNow,h1,h2,h3,h4])
theorem sM (nm:ByteArray) (least most:Int) (vs:Value) (to:ByteArray) (role:Int) (must fixed:Bool) (de we:ByteArray) (w:World):
  Calls Tryz.prog 197 #[.agg #[.string nm,.int .i64 1,.int .i64 least,.int .i64 most,vs,.string to,.int .i64 role,.bool must,.bool fixed,.string de,.string we]] w
   fun e w'=>e=.returned (.tuple #[.iface 268 (.agg #[.string nm,.int .i64 1,.int .i64 least,.int .i64 most,vs,.string to,.int .i64 role,.bool must,.bool fixed,.string de,.string we]),.bool true])∧Bel w w':=by
 have g9:=nP w;have zk:=AZ w;have Ie:=zY w;have Hb:=zw w;have KY:=Bn w;have hl:=IA w;go_enter Tryz.func197,Tryz.ntmps197
 go_wp2;go_ret2;refine⟨rfl, ?_⟩;repeat(first|exact br|refine ab ?_ _|refine Below.drew ?_)
theorem sF (nm:ByteArray) (least most:Int) (vs:Value) (to:ByteArray) (role:Int) (must fixed:Bool) (de we:ByteArray) (w:World):
  Calls Tryz.prog 197 #[.agg #[.string nm,.int .i64 2,.int .i64 least,.int .i64 most,vs,.string to,.int .i64 role,.bool must,.bool fixed,.string de,.string we]] w
   fun e w'=>e=.returned (.tuple #[.iface 270 (.agg #[.string nm,.int .i64 2,.int .i64 least,.int .i64 most,vs,.string to,.int .i64 role,.bool must,.bool fixed,.string de,.string we]),.bool true])∧Bel w w':=by
 have g9:=nP w;have zk:=AZ w;have Ie:=zY w;have Hb:=zw w;have KY:=Bn w;have hl:=Is w;go_enter Tryz.func197,Tryz.ntmps197
 go_wp2;go_ret2;refine⟨rfl, ?_⟩;repeat(first|exact br|refine ab ?_ _|refine Below.drew ?_)
theorem sT (nm:ByteArray) (least most:Int) (vs:Value) (to:ByteArray) (role:Int) (must fixed:Bool) (de we:ByteArray) (w:World):
  Calls Tryz.prog 197 #[.agg #[.string nm,.int .i64 3,.int .i64 least,.int .i64 most,vs,.string to,.int .i64 role,.bool must,.bool fixed,.string de,.string we]] w
   fun e w'=>e=.returned (.tuple #[.iface 271 (.agg #[.string nm,.int .i64 3,.int .i64 least,.int .i64 most,vs,.string to,.int .i64 role,.bool must,.bool fixed,.string de,.string we]),.bool true])∧Bel w w':=by
 have g9:=nP w;have zk:=AZ w;have Ie:=zY w;have Hb:=zw w;have KY:=Bn w;have hl:=Iw w;go_enter Tryz.func197,Tryz.ntmps197
 go_wp2;go_ret2;refine⟨rfl, ?_⟩;repeat(first|exact br|refine ab ?_ _|refine Below.drew ?_)
theorem sL (nm:ByteArray) (least most:Int) (vs:Value) (to:ByteArray) (role:Int) (must fixed:Bool) (de we:ByteArray) (w:World):
  Calls Tryz.prog 197 #[.agg #[.string nm,.int .i64 4,.int .i64 least,.int .i64 most,vs,.string to,.int .i64 role,.bool must,.bool fixed,.string de,.string we]] w
   fun e w'=>e=.returned (.tuple #[.iface 272 (.agg #[.string nm,.int .i64 4,.int .i64 least,.int .i64 most,vs,.string to,.int .i64 role,.bool must,.bool fixed,.string de,.string we]),.bool true])∧Bel w w':=by
 have g9:=nP w;have zk:=AZ w;have Ie:=zY w;have Hb:=zw w;have KY:=Bn w;have hl:=IQ w;go_enter Tryz.func197,Tryz.ntmps197
 go_wp2;go_ret2;refine⟨rfl, ?_⟩;repeat(first|exact br|refine ab ?_ _|refine Below.drew ?_)
theorem sf (nm:ByteArray) (kind least most:Int) (vs:Value) (to:ByteArray) (role:Int) (must fixed:Bool) (de we:ByteArray) (w:World)
  (h1:(kind==1)=false) (h2:(kind==2)=false) (h3:(kind==3)=false) (h4:(kind==4)=false):
  Calls Tryz.prog 197 #[.agg #[.string nm,.int .i64 kind,.int .i64 least,.int .i64 most,vs,.string to,.int .i64 role,.bool must,.bool fixed,.string de,.string we]] w
   fun e w'=>e=.returned (.tuple #[.nilIface,.bool false])∧Bel w w':=by
 have g9:=nP w;have zk:=AZ w;have Ie:=zY w;have Hb:=zw w;have KY:=Bn w;have hl:=fun o f1 f2 f3 f4=>IN w o f1 f2 f3 f4 kind h1 h2 h3 h4;go_enter Tryz.func197,Tryz.ntmps197
 go_wp2;go_ret2;refine⟨rfl, ?_⟩;repeat(first|exact br|refine ab ?_ _|refine Below.drew ?_)
def jY (least most:Int) (v:ByteArray):Bool:=Pl.dU v&&decide (least≤dL v)&&decide (dL v≤most)
def ia (least most:Int) (v:ByteArray):Bool:=decide (least≤(v.size:Int))&&decide ((v.size:Int)≤most)&&Pl.eC v
theorem CN (nm:ByteArray) (kind least most:Int) (vs:Value) (to:ByteArray) (role:Int) (must fixed:Bool) (de we v:ByteArray) (w:World) (hv:v.size≤maxLen):
  Calls Tryz.prog 238 #[.agg #[.string nm,.int .i64 kind,.int .i64 least,.int .i64 most,vs,.string to,.int .i64 role,.bool must,.bool fixed,.string de,.string we],.string v] w
   fun e w'=>e=.returned (.bool (jY least most v))∧Bel w w':=by
 cases hd:Pl.dU v
 ·have HF:Hid (jY least most v=false):=by show _=_;simp[jY,hd]
  have HD:=hid hd;clear hd;go_enter Tryz.func238,Tryz.ntmps238
  go_wp2_with fail
  refine(kk _ _ hv).mono ?_;rintro e w' ⟨rfl,rfl⟩;rw[HD.out];go_wp2;go_ret;exact⟨Pl.ae HF.out.symm,ab br _⟩
 ·have HF:Hid (jY least most v=(decide (least≤dL v)&&decide (dL v≤most))):=by show _=_;simp[jY,hd]
  have HD:=hid hd;clear hd;by_cases h1:least≤dL v
  all_goals
   go_enter Tryz.func238,Tryz.ntmps238
   go_wp2_with fail
   refine(kk _ _ hv).mono ?_;rintro e w' ⟨rfl,rfl⟩;rw[HD.out];go_wp2;go_ret;refine⟨Pl.ae ?_,ab br _⟩;rw[HF.out,Bool.eq_iff_iff];simp
   omega
theorem Bg (nm:ByteArray) (kind least most:Int) (b off cap:Nat) (to:ByteArray) (role:Int) (must fixed:Bool) (de we v:ByteArray) (ss:List ByteArray) (w:World) (hb:b<w.heap.size) (hl:ss.length≤maxLen) (hc:∀ i,i<ss.length→w.cell? ⟨b,off+i,none⟩=some (.string (ss.getD i ByteArray.empty))):
  Calls Tryz.prog 241 #[.agg #[.string nm,.int .i64 kind,.int .i64 least,.int .i64 most,.slice (some ⟨b,off,none⟩) ss.length cap,.string to,.int .i64 role,.bool must,.bool fixed,.string de,.string we],.string v] w
   fun e w'=>e=.returned (.bool (Pl.has ss v))∧Bel w w':=by
 have HX:Hid (∀ o,Calls Tryz.prog 242 #[.slice (some ⟨b,off,none⟩) ss.length cap,.string v] (w.alloc o) fun e w'=>e=.returned (.bool (Pl.has ss v))∧(w.alloc o)=w'):=by
  intro o;refine rk b off cap ss v _ hl fun i hi=> ?_;rw[← hc i hi];exact(ab br o:Bel w _).cell (p:=⟨b,off+i,none⟩) hb
 clear hc;go_enter Tryz.func241,Tryz.ntmps241
 go_wp2_with fail
 refine(HX.out _).mono ?_;rintro e w' ⟨rfl,rfl⟩;go_wp2;go_ret;exact⟨rfl,ab br _⟩
theorem A4 (nm:ByteArray) (kind least most:Int) (vs:Value) (to:ByteArray) (role:Int) (must fixed:Bool) (de we v:ByteArray) (w:World) (hv:v.size≤maxLen):
  Calls Tryz.prog 246 #[.agg #[.string nm,.int .i64 kind,.int .i64 least,.int .i64 most,vs,.string to,.int .i64 role,.bool must,.bool fixed,.string de,.string we],.string v] w
   fun e w'=>e=.returned (.bool (ia least most v))∧Bel w w':=by
 unfold maxLen at hv;by_cases bA:least≤(v.size:Int)∧(v.size:Int)≤most
 ·have HI:Hid (ia least most v=Pl.eC v):=by show _=_;simp[ia,bA.1,bA.2]
  obtain⟨i1,i2⟩:=bA;have t1:decide ((v.size:Int)<least)=false:=by simp;omega
  have t2:decide (most<(v.size:Int))=false:=by simp;omega
  clear i1 i2;go_enter Tryz.func246,Tryz.ntmps246
  go_wp2;go_loop [20] (fun i=>∃ k:Nat,k≤v.size∧i=.int .i64 k∧(v.data.toList.take k).all Pl.fl=true) (fun i=>v.size - (intOf i).toNat)
  case atStart=>exact⟨0,nz,rfl,rfl⟩
  case round=>
   obtain⟨k,hk,rfl,aw⟩:=hrel;have HA:=hid aw;clear aw;by_cases av:k<v.size
   ·by_cases hd:33≤(v[k].toNat:Int)∧(v[k].toNat:Int)≤126
    ·have HT:Hid (Pl.fl v[k]=true):=by show _=_;simp[Pl.fl];omega
     obtain⟨d1,d2⟩:=hd;go_wp2;go_round
     case rel=>exact⟨k+1,by omega,by go_num,by rw[Pl.gR _ _ _ av,HA.out,HT.out];rfl⟩
     case measure=>simp[intOf];omega
    ·have HF:Hid (Pl.eC v=false):=Pl.all_false _ v k av (by rw[Bool.eq_false_iff];simp[Pl.fl];omega);by_cases hd1:33≤(v[k].toNat:Int)
     all_goals
      go_wp2;go_ret;exact⟨Pl.ae (by rw[HI.out,HF.out]),ab br _⟩
   ·have HT:Hid (Pl.eC v=true):=by
     show Pl.eC v=true;unfold Pl.eC;rw[← Pl.jy Pl.fl v k (by omega)];exact HA.out
    go_wp2;go_ret;exact⟨Pl.ae (by rw[HI.out,HT.out]),ab br _⟩
 ·have HF:Hid (ia least most v=false):=by
   show ia least most v=false;have:(decide (least≤(v.size:Int))&&decide ((v.size:Int)≤most))=false:=by rw[Bool.eq_false_iff];simp;omega
   simp[ia,this]
  by_cases h1:(v.size:Int)<least
  all_goals
   go_enter Tryz.func246,Tryz.ntmps246
   go_wp2;go_ret;exact⟨Pl.ae HF.out.symm,ab br _⟩
theorem AQ (nm:ByteArray) (kind least most:Int) (vs:Value) (to:ByteArray) (role:Int) (must fixed:Bool) (de we v:ByteArray) (w:World) (hv:v.size≤maxLen):
  Calls Tryz.prog 249 #[.agg #[.string nm,.int .i64 kind,.int .i64 least,.int .i64 most,vs,.string to,.int .i64 role,.bool must,.bool fixed,.string de,.string we],.string v] w
   fun e w'=>e=.returned (.bool (Pl.aq v))∧Bel w w':=by
 go_enter Tryz.func249,Tryz.ntmps249
 go_wp2_with (go_at_call 89;refine(aJ _ _ hv).mono ?_;rintro e w' ⟨rfl,rfl⟩)
 go_ret;exact⟨rfl,ab br _⟩
theorem Fv (nm:ByteArray) (kind least most:Int) (vs:Value) (to:ByteArray) (role:Int) (must fixed:Bool) (de we:ByteArray) (w:World):(method 393 268 (.agg #[.string nm,.int .i64 kind,.int .i64 least,.int .i64 most,vs,.string to,.int .i64 role,.bool must,.bool fixed,.string de,.string we]) "loop.example/wharfdesk/impl.fits").run Tryz.prog w=.ok (238,.agg #[.string nm,.int .i64 kind,.int .i64 least,.int .i64 most,vs,.string to,.int .i64 role,.bool must,.bool fixed,.string de,.string we]) w:=by kernel_rfl
theorem FF (nm:ByteArray) (kind least most:Int) (vs:Value) (to:ByteArray) (role:Int) (must fixed:Bool) (de we:ByteArray) (w:World):(method 393 270 (.agg #[.string nm,.int .i64 kind,.int .i64 least,.int .i64 most,vs,.string to,.int .i64 role,.bool must,.bool fixed,.string de,.string we]) "loop.example/wharfdesk/impl.fits").run Tryz.prog w=.ok (241,.agg #[.string nm,.int .i64 kind,.int .i64 least,.int .i64 most,vs,.string to,.int .i64 role,.bool must,.bool fixed,.string de,.string we]) w:=by kernel_rfl
theorem E4 (nm:ByteArray) (kind least most:Int) (vs:Value) (to:ByteArray) (role:Int) (must fixed:Bool) (de we:ByteArray) (w:World):(method 393 271 (.agg #[.string nm,.int .i64 kind,.int .i64 least,.int .i64 most,vs,.string to,.int .i64 role,.bool must,.bool fixed,.string de,.string we]) "loop.example/wharfdesk/impl.fits").run Tryz.prog w=.ok (246,.agg #[.string nm,.int .i64 kind,.int .i64 least,.int .i64 most,vs,.string to,.int .i64 role,.bool must,.bool fixed,.string de,.string we]) w:=by kernel_rfl
theorem Fs (nm:ByteArray) (kind least most:Int) (vs:Value) (to:ByteArray) (role:Int) (must fixed:Bool) (de we:ByteArray) (w:World):(method 393 272 (.agg #[.string nm,.int .i64 kind,.int .i64 least,.int .i64 most,vs,.string to,.int .i64 role,.bool must,.bool fixed,.string de,.string we]) "loop.example/wharfdesk/impl.fits").run Tryz.prog w=.ok (249,.agg #[.string nm,.int .i64 kind,.int .i64 least,.int .i64 most,vs,.string to,.int .i64 role,.bool must,.bool fixed,.string de,.string we]) w:=by kernel_rfl
theorem pg (nm:ByteArray) (kind least most:Int) (vs:Value) (to:ByteArray) (role:Int) (must fixed:Bool) (de we v:ByteArray) (w:World) (hv:v.size≤maxLen):
  Calls Tryz.prog 198 #[.iface 268 (.agg #[.string nm,.int .i64 kind,.int .i64 least,.int .i64 most,vs,.string to,.int .i64 role,.bool must,.bool fixed,.string de,.string we]),.string v] w
   fun e w'=>e=.returned (.bool (decide (1≤v.size)&&jY least most v))∧Bel w w':=by
 have hm:=Fv nm kind least most vs to role must fixed de we;have HX:=hid (CN nm kind least most vs to role must fixed de we v w hv);clear hv;by_cases h1:1≤v.size
 ·have he:=Pl.fK v h1;have HD:Hid (decide (1≤v.size)=true):=by show decide (1≤v.size)=true;simp[h1]
  clear h1;go_enter Tryz.func198,Tryz.ntmps198
  go_wp2_with fail
  refine HX.out.mono ?_;rintro e w' ⟨rfl,hb⟩;go_wp2;go_ret;exact⟨Pl.ae (by rw[HD.out];rfl),hb⟩
 ·have he:=Pl.gF v h1;have HD:Hid (decide (1≤v.size)=false):=by show decide (1≤v.size)=false;simp[h1]
  clear h1;go_enter Tryz.func198,Tryz.ntmps198
  go_wp2;go_ret;exact⟨Pl.ae (by rw[HD.out];rfl),br⟩
theorem oK (nm:ByteArray) (kind least most:Int) (b off cap:Nat) (to:ByteArray) (role:Int) (must fixed:Bool) (de we v:ByteArray) (ss:List ByteArray) (w:World) (hb:b<w.heap.size) (hl:ss.length≤maxLen) (hc:∀ i,i<ss.length→w.cell? ⟨b,off+i,none⟩=some (.string (ss.getD i ByteArray.empty))):
  Calls Tryz.prog 198 #[.iface 270 (.agg #[.string nm,.int .i64 kind,.int .i64 least,.int .i64 most,.slice (some ⟨b,off,none⟩) ss.length cap,.string to,.int .i64 role,.bool must,.bool fixed,.string de,.string we]),.string v] w
   fun e w'=>e=.returned (.bool (decide (1≤v.size)&&Pl.has ss v))∧Bel w w':=by
 have hm:=FF nm kind least most (.slice (some ⟨b,off,none⟩) ss.length cap) to role must fixed de we;have HX:=hid (Bg nm kind least most b off cap to role must fixed de we v ss w hb hl hc);clear hc;by_cases h1:1≤v.size
 ·have he:=Pl.fK v h1;have HD:Hid (decide (1≤v.size)=true):=by show decide (1≤v.size)=true;simp[h1]
  clear h1;go_enter Tryz.func198,Tryz.ntmps198
  go_wp2_with fail
  refine HX.out.mono ?_;rintro e w' ⟨rfl,hb⟩;go_wp2;go_ret;exact⟨Pl.ae (by rw[HD.out];rfl),hb⟩
 ·have he:=Pl.gF v h1;have HD:Hid (decide (1≤v.size)=false):=by show decide (1≤v.size)=false;simp[h1]
  clear h1;go_enter Tryz.func198,Tryz.ntmps198
  go_wp2;go_ret;exact⟨Pl.ae (by rw[HD.out];rfl),br⟩
theorem oD (nm:ByteArray) (kind least most:Int) (vs:Value) (to:ByteArray) (role:Int) (must fixed:Bool) (de we v:ByteArray) (w:World) (hv:v.size≤maxLen):
  Calls Tryz.prog 198 #[.iface 271 (.agg #[.string nm,.int .i64 kind,.int .i64 least,.int .i64 most,vs,.string to,.int .i64 role,.bool must,.bool fixed,.string de,.string we]),.string v] w
   fun e w'=>e=.returned (.bool (decide (1≤v.size)&&ia least most v))∧Bel w w':=by
 have hm:=E4 nm kind least most vs to role must fixed de we;have HX:=hid (A4 nm kind least most vs to role must fixed de we v w hv);clear hv;by_cases h1:1≤v.size
 ·have he:=Pl.fK v h1;have HD:Hid (decide (1≤v.size)=true):=by show decide (1≤v.size)=true;simp[h1]
  clear h1;go_enter Tryz.func198,Tryz.ntmps198
  go_wp2_with fail
  refine HX.out.mono ?_;rintro e w' ⟨rfl,hb⟩;go_wp2;go_ret;exact⟨Pl.ae (by rw[HD.out];rfl),hb⟩
 ·have he:=Pl.gF v h1;have HD:Hid (decide (1≤v.size)=false):=by show decide (1≤v.size)=false;simp[h1]
  clear h1;go_enter Tryz.func198,Tryz.ntmps198
  go_wp2;go_ret;exact⟨Pl.ae (by rw[HD.out];rfl),br⟩
theorem nX (nm:ByteArray) (kind least most:Int) (vs:Value) (to:ByteArray) (role:Int) (must fixed:Bool) (de we v:ByteArray) (w:World) (hv:v.size≤maxLen):
  Calls Tryz.prog 198 #[.iface 272 (.agg #[.string nm,.int .i64 kind,.int .i64 least,.int .i64 most,vs,.string to,.int .i64 role,.bool must,.bool fixed,.string de,.string we]),.string v] w
   fun e w'=>e=.returned (.bool (decide (1≤v.size)&&Pl.aq v))∧Bel w w':=by
 have hm:=Fs nm kind least most vs to role must fixed de we;have HX:=hid (AQ nm kind least most vs to role must fixed de we v w hv);clear hv;by_cases h1:1≤v.size
 ·have he:=Pl.fK v h1;have HD:Hid (decide (1≤v.size)=true):=by show decide (1≤v.size)=true;simp[h1]
  clear h1;go_enter Tryz.func198,Tryz.ntmps198
  go_wp2_with fail
  refine HX.out.mono ?_;rintro e w' ⟨rfl,hb⟩;go_wp2;go_ret;exact⟨Pl.ae (by rw[HD.out];rfl),hb⟩
 ·have he:=Pl.gF v h1;have HD:Hid (decide (1≤v.size)=false):=by show decide (1≤v.size)=false;simp[h1]
  clear h1;go_enter Tryz.func198,Tryz.ntmps198
  go_wp2;go_ret;exact⟨Pl.ae (by rw[HD.out];rfl),br⟩
theorem Eu (least most:Int) (ss:List ByteArray) (v:ByteArray):(decide (1≤v.size)&&jY least most v)=Pl.fits 1 least most ss v:=by
 cases h:Pl.dU v
 ·simp[jY,Pl.fits,h]
 ·have h1:1≤v.size:=by simp only[Pl.dU,Bool.and_eq_true,decide_eq_true_eq]at h;omega
  simp[jY,Pl.fits,h,dL,h1]
theorem El (least most:Int) (ss:List ByteArray) (v:ByteArray):(decide (1≤v.size)&&Pl.has ss v)=Pl.fits 2 least most ss v:=by
 simp[Pl.fits]
theorem Ew (least most:Int) (ss:List ByteArray) (v:ByteArray):(decide (1≤v.size)&&ia least most v)=Pl.fits 3 least most ss v:=by
 rw[Bool.eq_iff_iff];simp[Pl.fits,ia];constructor
 ·rintro⟨a,⟨b,c⟩,d⟩;exact⟨⟨⟨a,d⟩,b⟩,c⟩
 ·rintro⟨⟨⟨a,d⟩,b⟩,c⟩;exact⟨a,⟨b,c⟩,d⟩
theorem Ex (least most:Int) (ss:List ByteArray) (v:ByteArray):(decide (1≤v.size)&&Pl.aq v)=Pl.fits 4 least most ss v:=by
 rw[Bool.eq_iff_iff];simp[Pl.fits,Pl.aq];intro a _ _;exact a
theorem t8 (nm:ByteArray) (least most:Int) (b off cap:Nat) (to:ByteArray) (role:Int) (must fixed:Bool) (de we v:ByteArray) (ss:List ByteArray) (w:World)
  (hv:v.size≤maxLen):
  Calls Tryz.prog 173 #[.agg #[.string nm,.int .i64 1,.int .i64 least,.int .i64 most,.slice (some ⟨b,off,none⟩) ss.length cap,.string to,.int .i64 role,.bool must,.bool fixed,.string de,.string we],.string v] w
   fun e w'=>e=.returned (.bool (Pl.fits 1 least most ss v))∧Bel w w':=by
 have HX:Hid (∀ w1,Bel w w1→Calls Tryz.prog 198 #[.iface 268 (.agg #[.string nm,.int .i64 1,.int .i64 least,.int .i64 most,.slice (some ⟨b,off,none⟩) ss.length cap,.string to,.int .i64 role,.bool must,.bool fixed,.string de,.string we]),.string v] w1 fun e w'=>e=.returned (.bool (Pl.fits 1 least most ss v))∧Bel w1 w'):=by
  intro w1 eb;rw[← Eu least most ss v];exact pg nm 1 least most _ to role must fixed de we v w1 hv
 clear hv;go_enter Tryz.func173,Tryz.ntmps173
 go_wp2_with fail
 refine(sM _ _ _ _ _ _ _ _ _ _ _).mono ?_;rintro e w1 ⟨rfl,bl⟩;have aA:=aa (ab br _) bl;clear bl;go_wp2_with fail
 refine(HX.out _ aA).mono ?_;rintro e w2 ⟨rfl,aO⟩;have cA:=aa aA aO;go_wp2;go_ret;exact⟨rfl,cA⟩
theorem tK (nm:ByteArray) (least most:Int) (b off cap:Nat) (to:ByteArray) (role:Int) (must fixed:Bool) (de we v:ByteArray) (ss:List ByteArray) (w:World)
  (hb:b<w.heap.size) (hl:ss.length≤maxLen) (hc:∀ i,i<ss.length→w.cell? ⟨b,off+i,none⟩=some (.string (ss.getD i ByteArray.empty))):
  Calls Tryz.prog 173 #[.agg #[.string nm,.int .i64 2,.int .i64 least,.int .i64 most,.slice (some ⟨b,off,none⟩) ss.length cap,.string to,.int .i64 role,.bool must,.bool fixed,.string de,.string we],.string v] w
   fun e w'=>e=.returned (.bool (Pl.fits 2 least most ss v))∧Bel w w':=by
 have HX:Hid (∀ w1,Bel w w1→Calls Tryz.prog 198 #[.iface 270 (.agg #[.string nm,.int .i64 2,.int .i64 least,.int .i64 most,.slice (some ⟨b,off,none⟩) ss.length cap,.string to,.int .i64 role,.bool must,.bool fixed,.string de,.string we]),.string v] w1 fun e w'=>e=.returned (.bool (Pl.fits 2 least most ss v))∧Bel w1 w'):=by
  intro w1 eb;rw[← El least most ss v];exact oK nm 2 least most b off cap to role must fixed de we v ss w1 (lo hb eb.size) hl (fun i hi=>by rw[← hc i hi];exact eb.cell (p:=⟨b,off+i,none⟩) hb)
 clear hc hl;go_enter Tryz.func173,Tryz.ntmps173
 go_wp2_with fail
 refine(sF _ _ _ _ _ _ _ _ _ _ _).mono ?_;rintro e w1 ⟨rfl,bl⟩;have aA:=aa (ab br _) bl;clear bl;go_wp2_with fail
 refine(HX.out _ aA).mono ?_;rintro e w2 ⟨rfl,aO⟩;have cA:=aa aA aO;go_wp2;go_ret;exact⟨rfl,cA⟩
theorem tX (nm:ByteArray) (least most:Int) (b off cap:Nat) (to:ByteArray) (role:Int) (must fixed:Bool) (de we v:ByteArray) (ss:List ByteArray) (w:World)
  (hv:v.size≤maxLen):
  Calls Tryz.prog 173 #[.agg #[.string nm,.int .i64 3,.int .i64 least,.int .i64 most,.slice (some ⟨b,off,none⟩) ss.length cap,.string to,.int .i64 role,.bool must,.bool fixed,.string de,.string we],.string v] w
   fun e w'=>e=.returned (.bool (Pl.fits 3 least most ss v))∧Bel w w':=by
 have HX:Hid (∀ w1,Bel w w1→Calls Tryz.prog 198 #[.iface 271 (.agg #[.string nm,.int .i64 3,.int .i64 least,.int .i64 most,.slice (some ⟨b,off,none⟩) ss.length cap,.string to,.int .i64 role,.bool must,.bool fixed,.string de,.string we]),.string v] w1 fun e w'=>e=.returned (.bool (Pl.fits 3 least most ss v))∧Bel w1 w'):=by
  intro w1 eb;rw[← Ew least most ss v];exact oD nm 3 least most _ to role must fixed de we v w1 hv
 clear hv;go_enter Tryz.func173,Tryz.ntmps173
 go_wp2_with fail
 refine(sT _ _ _ _ _ _ _ _ _ _ _).mono ?_;rintro e w1 ⟨rfl,bl⟩;have aA:=aa (ab br _) bl;clear bl;go_wp2_with fail
 refine(HX.out _ aA).mono ?_;rintro e w2 ⟨rfl,aO⟩;have cA:=aa aA aO;go_wp2;go_ret;exact⟨rfl,cA⟩
theorem vi (nm:ByteArray) (least most:Int) (b off cap:Nat) (to:ByteArray) (role:Int) (must fixed:Bool) (de we v:ByteArray) (ss:List ByteArray) (w:World)
  (hv:v.size≤maxLen):
  Calls Tryz.prog 173 #[.agg #[.string nm,.int .i64 4,.int .i64 least,.int .i64 most,.slice (some ⟨b,off,none⟩) ss.length cap,.string to,.int .i64 role,.bool must,.bool fixed,.string de,.string we],.string v] w
   fun e w'=>e=.returned (.bool (Pl.fits 4 least most ss v))∧Bel w w':=by
 have HX:Hid (∀ w1,Bel w w1→Calls Tryz.prog 198 #[.iface 272 (.agg #[.string nm,.int .i64 4,.int .i64 least,.int .i64 most,.slice (some ⟨b,off,none⟩) ss.length cap,.string to,.int .i64 role,.bool must,.bool fixed,.string de,.string we]),.string v] w1 fun e w'=>e=.returned (.bool (Pl.fits 4 least most ss v))∧Bel w1 w'):=by
  intro w1 eb;rw[← Ex least most ss v];exact nX nm 4 least most _ to role must fixed de we v w1 hv
 clear hv;go_enter Tryz.func173,Tryz.ntmps173
 go_wp2_with fail
 refine(sL _ _ _ _ _ _ _ _ _ _ _).mono ?_;rintro e w1 ⟨rfl,bl⟩;have aA:=aa (ab br _) bl;clear bl;go_wp2_with fail
 refine(HX.out _ aA).mono ?_;rintro e w2 ⟨rfl,aO⟩;have cA:=aa aA aO;go_wp2;go_ret;exact⟨rfl,cA⟩
theorem ua (nm:ByteArray) (kind least most:Int) (vs:Value) (to:ByteArray) (role:Int) (must fixed:Bool) (de we v:ByteArray) (ss:List ByteArray) (w:World)
  (h1:(kind==1)=false) (h2:(kind==2)=false) (h3:(kind==3)=false) (h4:(kind==4)=false):
  Calls Tryz.prog 173 #[.agg #[.string nm,.int .i64 kind,.int .i64 least,.int .i64 most,vs,.string to,.int .i64 role,.bool must,.bool fixed,.string de,.string we],.string v] w
   fun e w'=>e=.returned (.bool (Pl.fits kind least most ss v))∧Bel w w':=by
 have HF:Hid (Pl.fits kind least most ss v=false):=by
  show Pl.fits kind least most ss v=_;simp only[beq_eq_false_iff_ne,ne_eq]at h1 h2 h3 h4;simp[Pl.fits,h1,h2,h3,h4]
 have HX:=hid fun (W:World)=>sf nm kind least most vs to role must fixed de we W h1 h2 h3 h4;clear h1 h2 h3 h4;go_enter Tryz.func173,Tryz.ntmps173
 go_wp2_with fail
 refine(HX.out _).mono ?_;rintro e w1 ⟨rfl,bl⟩;have aA:=aa (ab br _) bl;clear bl;go_wp2;go_ret;exact⟨Pl.ae HF.out.symm,aA⟩
theorem mi (nm:ByteArray) (kind least most:Int) (b off cap:Nat) (to:ByteArray) (role:Int) (must fixed:Bool) (de we v:ByteArray) (ss:List ByteArray) (w:World)
  (hv:v.size≤maxLen) (hb:b<w.heap.size) (hl:ss.length≤maxLen) (hc:∀ i,i<ss.length→w.cell? ⟨b,off+i,none⟩=some (.string (ss.getD i ByteArray.empty))):
  Calls Tryz.prog 173 #[.agg #[.string nm,.int .i64 kind,.int .i64 least,.int .i64 most,.slice (some ⟨b,off,none⟩) ss.length cap,.string to,.int .i64 role,.bool must,.bool fixed,.string de,.string we],.string v] w
   fun e w'=>e=.returned (.bool (Pl.fits kind least most ss v))∧Bel w w':=by
 by_cases h1:kind=1
 ·subst h1;exact t8 nm least most b off cap to role must fixed de we v ss w hv
 by_cases h2:kind=2
 ·subst h2;exact tK nm least most b off cap to role must fixed de we v ss w hb hl hc
 by_cases h3:kind=3
 ·subst h3;exact tX nm least most b off cap to role must fixed de we v ss w hv
 by_cases h4:kind=4
 ·subst h4;exact vi nm least most b off cap to role must fixed de we v ss w hv
 exact ua nm kind least most _ to role must fixed de we v ss w (by simp[h1]) (by simp[h2]) (by simp[h3]) (by simp[h4])
end Go.Proofs.YtbiokpmdghmgcaaGreat
namespace Go.Proofs.YtbiokpmdghmgcaaGreat
set_option maxHeartbeats 40000000
open Go.RowKit Go.Deep
theorem fY (B:Nat) (ss:List Shp) (k:ByteArray) (w:World) (h:bh w B ss):
  Calls Tryz.prog 124 #[.slice (some ⟨B,0,none⟩) ss.length ss.length,.string k] w fun e w'=>e=.returned (.int .i64 (if aB ss k<ss.length then (aB ss k:Int) else -1))∧w=w':=by
 have hl:=h.len;obtain⟨r,hr⟩:∃ r:Int,r=(if aB ss k<ss.length then (aB ss k:Int) else -1):=⟨_,rfl⟩
 have HR:=hid hr;rw[← hr];clear hr;go_enter Tryz.func124,Tryz.ntmps124
 go_wp2;go_loop [5] (fun i=>∃ q:Nat,q≤ss.length∧i=.int .i64 q∧q≤aB ss k) (fun i=>ss.length - (intOf i).toNat)
 case atStart=>exact⟨0,nz,rfl,nz⟩
 case round=>
  obtain⟨q,hq,rfl,iM⟩:=hrel;have HN:=hid iM;clear iM;by_cases av:q<ss.length
  ·obtain⟨b,_,_,_,_,c0,c1,_⟩:=h.at_ q av;obtain⟨s,hs⟩:∃ s,s=ss.getD q Shp.none:=⟨_,rfl⟩
   rw[← hs]at c0 c1;cases ht:(s.kind.toList==k.toList)
   ·have HM:=hid (kh ss k q av HN.out (by rw[← hs];exact ht));clear hs h;go_wp2;go_round
    case rel=>exact⟨q+1,by omega,by go_num,HM.out⟩
    case measure=>simp[intOf];omega
   ·have HM:=hid (lF ss k q av HN.out (by rw[← hs];exact ht));clear hs h;go_wp2;go_ret;exact⟨Pl.aP (by rw[HR.out,HM.out,if_pos av]),rfl⟩
  ·clear h;go_wp2;go_ret;exact⟨Pl.aP (by rw[HR.out,if_neg (by have:=HN.out;omega)]),rfl⟩
theorem cD (s:ByteArray) (w:World) (hs:s.size≤maxLen):
  Calls Tryz.prog 68 #[.string s] w fun e w'=>e=.returned (.bool (Pl.aq s))∧w'=w:=(aG s w hs).mono fun _ _ h=>⟨h.1,h.2.symm⟩
theorem il {ss:List ByteArray} {k:Nat} (hk:k<ss.length) (h:Pl.kl ss k=false):Pl.asc ss=false:=Pl.gl _ _ k hk h
theorem lU {ss:List ByteArray} {k:Nat} (h:Pl.qn ss k=true) (ha:Pl.kl ss k=true):Pl.qn ss (k+1)=true:=by
 unfold Pl.qn at h ⊢;rw[Pl.ib,h,ha];rfl
theorem mK (b cap:Nat) (ss:List ByteArray) (w:World) (hl:ss.length≤1048576) (hb:b<w.heap.size) (hs:∀ i,i<ss.length→(ss.getD i ByteArray.empty).size≤maxLen)
  (hc:∀ i,i<ss.length→w.cell? ⟨b,0+i,none⟩=some (.string (ss.getD i ByteArray.empty))):
  Calls Tryz.prog 119 #[.slice (some ⟨b,0,none⟩) ss.length cap] w fun e w'=>e=.returned (.bool (Pl.asc ss))∧Bel w w':=by
 go_enter Tryz.func119,Tryz.ntmps119
 go_wp2;go_loopw [3] (fun i wr=>∃ k:Nat,k≤ss.length∧i=.int .i64 k∧Pl.qn ss k=true∧Bel w wr) (fun i _=>ss.length - (intOf i).toNat)
 case atStart=>exact⟨0,nz,rfl,rfl,br⟩
 case round=>
  obtain⟨k,hk,rfl,aw,hW⟩:=hrel;have HA:=hid aw;clear aw;by_cases av:k<ss.length
  ·obtain⟨s,j6⟩:∃ s,s=ss.getD k ByteArray.empty:=⟨_,rfl⟩
   have xi:wr.cell? ⟨b,k,none⟩=some (.string s):=by rw[j6,hW.cell (p:=⟨b,k,none⟩) hb];simpa using hc k av
   have HX:Hid (s.size≤maxLen):=by show s.size≤maxLen;rw[j6];exact hs k av
   by_cases h0:k=0
   ·subst h0;have HT:Hid (Pl.kl ss 0=Pl.aq s):=by show _=_;rw[j6];simp[Pl.kl]
    clear hc hs j6;cases hn:Pl.aq s
    ·have HF:=hid (il av (by rw[HT.out,hn]));go_wp2_with fail
     go_quiet ((go_at_call 68;exact Calls.quiet_of_same (cD _ _ HX.out)))
     go_wp2;go_ret;exact⟨Pl.ae HF.out.symm,al hW _⟩
    ·have HF:=hid (lU HA.out (by rw[HT.out,hn]));go_wp2_with fail
     go_quiet ((go_at_call 68;exact Calls.quiet_of_same (cD _ _ HX.out)))
     go_wp2;go_roundw
     case rel=>exact⟨1,by omega,by go_num,HF.out,al hW _⟩
     case measure=>simp[intOf];omega
   ·obtain⟨p,tD⟩:∃ p,p=ss.getD (k - 1) ByteArray.empty:=⟨_,rfl⟩
    obtain⟨m,rfl⟩:∃ m,k=m+1:=⟨k - 1,by omega⟩
    have mQ:wr.cell? ⟨b,m,none⟩=some (.string p):=by rw[tD,hW.cell (p:=⟨b,m,none⟩) hb];simpa using hc m (by omega)
    have HT:Hid (Pl.kl ss (m+1)=(Pl.aq s&&Op.bytesLess p.toList s.toList)):=by show _=_;rw[j6,tD];simp[Pl.kl,Pl.less]
    clear hc hs j6 tD h0;cases hn:Pl.aq s
    ·have HF:=hid (il av (by rw[HT.out,hn];rfl));go_wp2_with fail
     go_quiet ((go_at_call 68;exact Calls.quiet_of_same (cD _ _ HX.out)))
     go_wp2;go_ret;exact⟨Pl.ae HF.out.symm,al hW _⟩
    ·cases hq:Op.bytesLess p.toList s.toList
     ·have HF:=hid (il av (by rw[HT.out,hn,hq];rfl));go_wp2_with fail
      go_quiet ((go_at_call 68;exact Calls.quiet_of_same (cD _ _ HX.out)))
      go_wp2;go_ret;exact⟨Pl.ae HF.out.symm,al hW _⟩
     ·have HF:=hid (lU HA.out (by rw[HT.out,hn,hq];rfl));go_wp2_with fail
      go_quiet ((go_at_call 68;exact Calls.quiet_of_same (cD _ _ HX.out)))
      go_wp2;go_roundw
      case rel=>exact⟨m+1+1,by omega,by go_num,HF.out,al hW _⟩
      case measure=>simp[intOf];omega
  ·have HF:Hid (Pl.asc ss=true):=by
    obtain rfl:k=ss.length:=by omega
    exact HA.out
   go_wp2;go_ret;exact⟨Pl.ae HF.out.symm,hW⟩
theorem wS (b cap:Nat) (ss:List ByteArray) (w:World) (hl:ss.length≤1048576) (hs:∀ i,i<ss.length→(ss.getD i ByteArray.empty).size≤maxLen)
  (hc:∀ i,i<ss.length→w.cell? ⟨b,0+i,none⟩=some (.string (ss.getD i ByteArray.empty))):
  Calls Tryz.prog 205 #[.slice (some ⟨b,0,none⟩) ss.length cap] w fun e w'=>e=.returned (.bool (Pl.asc ss))∧w=w':=by
 go_enter Tryz.func205,Tryz.ntmps205
 go_wp2;go_loop [7] (fun i=>∃ k:Nat,k≤ss.length∧i=.int .i64 k∧Pl.qn ss k=true) (fun i=>ss.length - (intOf i).toNat)
 case atStart=>exact⟨0,nz,rfl,rfl⟩
 case round=>
  obtain⟨k,hk,rfl,aw⟩:=hrel;have HA:=hid aw;clear aw;by_cases av:k<ss.length
  ·obtain⟨s,j6⟩:∃ s,s=ss.getD k ByteArray.empty:=⟨_,rfl⟩
   have xi:w.cell? ⟨b,k,none⟩=some (.string s):=by rw[j6];simpa using hc k av
   have HX:Hid (s.size≤maxLen):=by show s.size≤maxLen;rw[j6];exact hs k av
   by_cases h0:k=0
   ·subst h0;have HT:Hid (Pl.kl ss 0=Pl.aq s):=by show _=_;rw[j6];simp[Pl.kl]
    clear hc hs j6;cases hn:Pl.aq s
    ·have HF:=hid (il av (by rw[HT.out,hn]));go_wp2_with (go_at_call 89;refine(aJ _ _ HX.out).mono ?_;rintro e w' ⟨rfl,rfl⟩)
     go_ret;exact⟨Pl.ae HF.out.symm,rfl⟩
    ·have HF:=hid (lU HA.out (by rw[HT.out,hn]));go_wp2_with (go_at_call 89;refine(aJ _ _ HX.out).mono ?_;rintro e w' ⟨rfl,rfl⟩)
     go_round
     case rel=>exact⟨1,by omega,by go_num,HF.out⟩
     case measure=>simp[intOf];omega
   ·obtain⟨p,tD⟩:∃ p,p=ss.getD (k - 1) ByteArray.empty:=⟨_,rfl⟩
    obtain⟨m,rfl⟩:∃ m,k=m+1:=⟨k - 1,by omega⟩
    have mQ:w.cell? ⟨b,m,none⟩=some (.string p):=by rw[tD];simpa using hc m (by omega)
    have HT:Hid (Pl.kl ss (m+1)=(Pl.aq s&&Op.bytesLess p.toList s.toList)):=by show _=_;rw[j6,tD];simp[Pl.kl,Pl.less]
    clear hc hs j6 tD h0;cases hn:Pl.aq s
    ·have HF:=hid (il av (by rw[HT.out,hn];rfl));go_wp2_with (go_at_call 89;refine(aJ _ _ HX.out).mono ?_;rintro e w' ⟨rfl,rfl⟩)
     go_ret;exact⟨Pl.ae HF.out.symm,rfl⟩
    ·cases hq:Op.bytesLess p.toList s.toList
     ·have HF:=hid (il av (by rw[HT.out,hn,hq];rfl));go_wp2_with (go_at_call 89;refine(aJ _ _ HX.out).mono ?_;rintro e w' ⟨rfl,rfl⟩)
      go_ret;exact⟨Pl.ae HF.out.symm,rfl⟩
     ·have HF:=hid (lU HA.out (by rw[HT.out,hn,hq];rfl));go_wp2_with (go_at_call 89;refine(aJ _ _ HX.out).mono ?_;rintro e w' ⟨rfl,rfl⟩)
      go_round
      case rel=>exact⟨m+1+1,by omega,by go_num,HF.out⟩
      case measure=>simp[intOf];omega
  ·have HF:Hid (Pl.asc ss=true):=by
    obtain rfl:k=ss.length:=by omega
    exact HA.out
   go_wp2;go_ret;exact⟨Pl.ae HF.out.symm,rfl⟩
def qZ (ss:List Shp) (k:ByteArray) (w:World) (kd:ByteArray) (v:Value):Prop:=
 aK ss k=true→kd=(ss.getD (aB ss k) Shp.none).kind∧∃ b,v=.slice (some ⟨b,0,none⟩) (ss.getD (aB ss k) Shp.none).fields.length (ss.getD (aB ss k) Shp.none).fields.length∧b<w.heap.size∧
  ∀ i,i<(ss.getD (aB ss k) Shp.none).fields.length→bx w b (i*11) ((ss.getD (aB ss k) Shp.none).fields.getD i Fld.none)
theorem nc (B:Nat) (ss:List Shp) (k:ByteArray) (w:World) (h:bh w B ss):
  Calls Tryz.prog 132 #[.slice (some ⟨B,0,none⟩) ss.length ss.length,.string k] w fun e w'=>∃ kd a n c,e=.returned (.tuple #[.agg #[.string kd,.slice a n c],.bool (aK ss k)])∧qZ ss k w kd (.slice a n c)∧Bel w w':=by
 have hl:=h.len;have HH:=hid h;clear h;go_enter Tryz.func132,Tryz.ntmps132
 go_wp2;go_loopw [10] (fun i wr=>∃ q:Nat,q≤ss.length∧i=.int .i64 q∧q≤aB ss k∧Bel w wr∧ai wr w.heap.size 134 2) (fun i _=>ss.length - (intOf i).toNat)
 case atStart=>exact⟨0,nz,rfl,nz,ab br _,ai.alloc w _ 134 _ rfl⟩
 case round=>
  obtain⟨q,hq,rfl,iM,hW,hO⟩:=hrel;have HN:=hid iM;have HO:=hid hO;have ij:=hO.frozen;obtain⟨x0,o0⟩:=hO.cell 0 (by omega);obtain⟨x1,o1⟩:=hO.cell 1 (by omega);have hz:=hO.lt;clear iM hO;by_cases av:q<ss.length
  ·obtain⟨b,_,gW,_,_,d0,d1,hf⟩:=HH.out.at_ q av;have c0:=(hW.cell (p:=⟨B,q*2,none⟩) HH.out.lt).trans d0;have c1:=(hW.cell (p:=⟨B,q*2+1,none⟩) HH.out.lt).trans d1;clear d0 d1;obtain⟨s,hs⟩:∃ s,s=ss.getD q Shp.none:=⟨_,rfl⟩
   rw[← hs]at c0 c1 hf;cases ht:(s.kind.toList==k.toList)
   ·have HM:=hid (kh ss k q av HN.out (by rw[← hs];exact ht));clear hs hf gW;go_wp2;go_roundw
    case rel=>exact⟨q+1,by omega,by go_num,HM.out,ab hW _,HO.out.later (ab br _)⟩
    case measure=>simp[intOf];omega
   ·have HM:=hid (lF ss k q av HN.out (by rw[← hs];exact ht));have HS:=hid (And.intro hs (And.intro gW hf));have HK:Hid (aK ss k=true):=by show _=_;simp[aK,HM.out,av]
    clear hs hf gW;go_wp2;have e0:∀ (x:Value) (o:Obj),(((wr.setCell ⟨w.heap.size,0,none⟩ (.string s.kind)).setCell ⟨w.heap.size,1,none⟩ x).alloc o).cell? ⟨w.heap.size,0,none⟩=some (.string s.kind):=by
     intro x o;have h1:=World.cell?_alloc_past (w:=(wr.setCell ⟨w.heap.size,0,none⟩ (.string s.kind)).setCell ⟨w.heap.size,1,none⟩ x) o w.heap.size 0 (by rw[bg,bg];exact hz);rw[h1,aF _ _ _ _ _ _ (by omega)];exact eL HO.out 0 (by omega) _
    have e1:∀ (x:Value) (o:Obj),(((wr.setCell ⟨w.heap.size,0,none⟩ (.string s.kind)).setCell ⟨w.heap.size,1,none⟩ x).alloc o).cell? ⟨w.heap.size,1,none⟩=some x:=by
     intro x o;have h1:=World.cell?_alloc_past (w:=(wr.setCell ⟨w.heap.size,0,none⟩ (.string s.kind)).setCell ⟨w.heap.size,1,none⟩ x) o w.heap.size 1 (by rw[bg,bg];exact hz);rw[h1];exact eL (HO.out.setCell 0 _) 1 (by omega) _
    refine bodyPost_ret (v:=.tuple #[.agg #[.string s.kind,.slice (some ⟨b,0,none⟩) s.fields.length s.fields.length],.bool true]) (by simp[results,Tryz.results132,go_sem,e0,e1]) rfl ⟨_,_,_,_,by rw[HK.out], ?_, ?_⟩
    ·intro _;rw[HM.out,← HS.out.1];exact⟨rfl,b,rfl,HS.out.2.1,HS.out.2.2⟩
    ·exact ab ((hW.setCell (p:=⟨w.heap.size,0,none⟩) nr _).setCell (p:=⟨w.heap.size,1,none⟩) nr _) _
  ·have HK:Hid (aK ss k=false):=by have:=HN.out;show aK ss k=false;simp[aK];omega
   go_wp2;have e0:∀ (x y:Value),((wr.setCell ⟨w.heap.size,0,none⟩ y).setCell ⟨w.heap.size,1,none⟩ x).cell? ⟨w.heap.size,0,none⟩=some y:=by
    intro x y;rw[aF _ _ _ _ _ _ (by omega)];exact eL HO.out 0 (by omega) _
   have e1:∀ (x y:Value),((wr.setCell ⟨w.heap.size,0,none⟩ y).setCell ⟨w.heap.size,1,none⟩ x).cell? ⟨w.heap.size,1,none⟩=some x:=by
    intro x y;exact eL (HO.out.setCell 0 _) 1 (by omega) _
   refine bodyPost_ret (v:=.tuple #[.agg #[.string ⟨#[]⟩,.slice none 0 0],.bool false]) (by simp[results,Tryz.results132,go_sem,e0,e1]) rfl ⟨_,_,_,_,by rw[HK.out], ?_, ?_⟩
   ·intro h;rw[HK.out]at h;cases h
   ·exact(hW.setCell (p:=⟨w.heap.size,0,none⟩) nr _).setCell (p:=⟨w.heap.size,1,none⟩) nr _
theorem xP (f:Fld) (b:Nat) (v:Value) (ss:List Shp) (w:World) (hk:f.kind=1) (hw:f.we.size≤maxLen):
  Calls Tryz.prog 237 #[.agg #[.string f.nm,.int .i64 1,.int .i64 f.least,.int .i64 f.most,.slice (some ⟨b,0,none⟩) f.words.length f.words.length,.string f.to,.int .i64 f.role,.bool f.must,.bool f.fixed,.string f.de,.string f.we],v] w fun e w'=>e=.returned (.bool (aL ss f))∧Bel w w':=by
 have HB:Hid (aL ss f=(decide (0≤f.least)&&decide (f.least≤f.most)&&decide (f.most≤1000000)&&(f.we.toList.isEmpty||Pl.aq f.we))):=by show _=_;simp[aL,hk,Pl.aE]
 clear hk;go_enter Tryz.func237,Tryz.ntmps237
 go_wp2_with (go_at_call 89;refine(aJ _ _ hw).mono ?_;rintro e w' ⟨rfl,rfl⟩)
 all_goals go_ret
 all_goals refine⟨Pl.ae ?_,ab br _⟩
 all_goals rw[HB.out]
 all_goals clear HB
 all_goals go_light
 all_goals first|(simp_all;done)|(simp_all;omega)|(rw[Bool.eq_iff_iff];simp_all;done)|(rw[Bool.eq_iff_iff];simp_all;omega)
theorem ym (f:Fld) (b:Nat) (v:Value) (ss:List Shp) (w:World) (hk:f.kind=3):
  Calls Tryz.prog 245 #[.agg #[.string f.nm,.int .i64 3,.int .i64 f.least,.int .i64 f.most,.slice (some ⟨b,0,none⟩) f.words.length f.words.length,.string f.to,.int .i64 f.role,.bool f.must,.bool f.fixed,.string f.de,.string f.we],v] w fun e w'=>e=.returned (.bool (aL ss f))∧Bel w w':=by
 have HB:Hid (aL ss f=(decide (1≤f.least)&&decide (f.least≤f.most)&&decide (f.most≤40))):=by show _=_;simp[aL,hk]
 clear hk;go_enter Tryz.func245,Tryz.ntmps245
 go_wp2
 all_goals go_ret
 all_goals refine⟨Pl.ae ?_,ab br _⟩
 all_goals rw[HB.out]
 all_goals clear HB
 all_goals go_light
 all_goals first|(simp_all;done)|(simp_all;omega)|(rw[Bool.eq_iff_iff];simp_all;done)|(rw[Bool.eq_iff_iff];simp_all;omega)
theorem yv (f:Fld) (b:Nat) (v:Value) (ss:List Shp) (w:World) (hk:f.kind=2) (hs:f.small) (hb:b<w.heap.size) (hz:∀ i,i<f.words.length→(f.words.getD i ByteArray.empty).size≤maxLen)
  (hc:∀ i,i<f.words.length→w.cell? ⟨b,0+i,none⟩=some (.string (f.words.getD i ByteArray.empty))):
  Calls Tryz.prog 240 #[.agg #[.string f.nm,.int .i64 2,.int .i64 f.least,.int .i64 f.most,.slice (some ⟨b,0,none⟩) f.words.length f.words.length,.string f.to,.int .i64 f.role,.bool f.must,.bool f.fixed,.string f.de,.string f.we],v] w fun e w'=>e=.returned (.bool (aL ss f))∧Bel w w':=by
 have HB:Hid (aL ss f=(decide (1≤f.words.length)&&decide (f.words.length≤6)&&Pl.asc f.words)):=by show _=_;simp[aL,hk]
 have yY:f.words.length≤1048576:=hs;have HX:Hid (∀ o,Calls Tryz.prog 205 #[.slice (some ⟨b,0,none⟩) f.words.length f.words.length] (w.alloc o) fun e w'=>e=.returned (.bool (Pl.asc f.words))∧(w.alloc o)=w'):=by
  intro o;refine wS b _ f.words _ hs hz fun i hi=> ?_;rw[← hc i hi];exact(ab br o:Bel w _).cell (p:=⟨b,0+i,none⟩) hb
 clear hk hs hz hc;by_cases h1:1≤f.words.length
 ·by_cases h2:f.words.length≤6
  ·have HF:Hid (aL ss f=Pl.asc f.words):=by show _=_;rw[HB.out];simp[h1,h2]
   go_enter Tryz.func240,Tryz.ntmps240
   go_wp2_with fail
   refine(HX.out _).mono ?_;rintro e w' ⟨rfl,rfl⟩;go_wp2;go_ret;exact⟨Pl.ae HF.out.symm,ab br _⟩
  ·have HF:Hid (aL ss f=false):=by show _=_;rw[HB.out];simp[h2]
   go_enter Tryz.func240,Tryz.ntmps240
   go_wp2;go_ret;exact⟨Pl.ae HF.out.symm,ab br _⟩
 ·have HF:Hid (aL ss f=false):=by show _=_;rw[HB.out];simp[h1]
  go_enter Tryz.func240,Tryz.ntmps240
  go_wp2;go_ret;exact⟨Pl.ae HF.out.symm,ab br _⟩
theorem xy (f:Fld) (b B:Nat) (ss:List Shp) (w:World) (hk:f.kind=4) (h:bh w B ss):
  Calls Tryz.prog 248 #[.agg #[.string f.nm,.int .i64 4,.int .i64 f.least,.int .i64 f.most,.slice (some ⟨b,0,none⟩) f.words.length f.words.length,.string f.to,.int .i64 f.role,.bool f.must,.bool f.fixed,.string f.de,.string f.we],.slice (some ⟨B,0,none⟩) ss.length ss.length] w fun e w'=>e=.returned (.bool (aL ss f))∧Bel w w':=by
 have HB:Hid (aL ss f=(aK ss f.to&&(decide (1≤f.role)&&decide (f.role≤3)&&f.de.toList.isEmpty&&(!decide (f.role=2)|| !f.must)))):=by show _=_;simp[aL,hk,Pl.aE,Bool.and_assoc]
 have HX:Hid (∀ o,Calls Tryz.prog 132 #[.slice (some ⟨B,0,none⟩) ss.length ss.length,.string f.to] (w.alloc o) fun e w'=>∃ kd a n c,e=.returned (.tuple #[.agg #[.string kd,.slice a n c],.bool (aK ss f.to)])∧qZ ss f.to (w.alloc o) kd (.slice a n c)∧Below (w.alloc o).heap.size (w.alloc o) w'):=
  fun o=>nc B ss f.to (w.alloc o) (h.later (ab br o))
 clear hk h;go_enter Tryz.func248,Tryz.ntmps248
 go_wp2_with fail
 refine(HX.out _).mono ?_;rintro e w2 ⟨kd,a2,n2,c2,rfl,_,aA⟩;have bE:=aa (ab (Below.refl w.heap.size w) (.cells #[.string f.nm,.int .i64 4,.int .i64 f.least,.int .i64 f.most,.slice (some ⟨b,0,none⟩) f.words.length f.words.length,.string f.to,.int .i64 f.role,.bool f.must,.bool f.fixed,.string f.de,.string f.we] 272)) aA;have k0:∀ o,w2.cell? ⟨w.heap.size,o,none⟩=(w.alloc (.cells #[.string f.nm,.int .i64 4,.int .i64 f.least,.int .i64 f.most,.slice (some ⟨b,0,none⟩) f.words.length f.words.length,.string f.to,.int .i64 f.role,.bool f.must,.bool f.fixed,.string f.de,.string f.we] 272)).cell? ⟨w.heap.size,o,none⟩:=fun o=>aA.cell (p:=⟨w.heap.size,o,none⟩) (by simp);have gX:w.heap.size<w2.heap.size:=by have:=aA.size;simp at this;omega
 clear aA HX;cases hh:aK ss f.to
 ·have HF:Hid (aL ss f=false):=by show _=_;rw[HB.out,hh];rfl
  go_wp2;go_ret;exact⟨Pl.ae HF.out.symm,ab bE _⟩
 ·have HF:Hid (aL ss f=(decide (1≤f.role)&&decide (f.role≤3)&&f.de.toList.isEmpty&&(!decide (f.role=2)|| !f.must))):=by show _=_;rw[HB.out,hh];rfl
  clear HB;go_wp2
  all_goals go_ret
  all_goals refine⟨Pl.ae ?_,ab bE _⟩
  all_goals rw[HF.out]
  all_goals clear HF bE k0
  all_goals go_light
  all_goals first|(simp_all;done)|(simp_all;omega)|(rw[Bool.eq_iff_iff];simp_all;done)|(rename_i _ _ yP;rcases yP with yP|yP;(exfalso;omega);(simp only[Bool.not_eq_true']at yP;rw[yP];simp))
theorem kI {α:Type} (l:List α):l.isEmpty=decide (l.length=0):=by cases l<;>simp
theorem Av (f:Fld) (b:Nat) (w:World) (hs:f.small) (hk:f.kind=1):
  Calls Tryz.prog 194 #[.agg #[.string f.nm,.int .i64 1,.int .i64 f.least,.int .i64 f.most,.slice (some ⟨b,0,none⟩) f.words.length f.words.length,.string f.to,.int .i64 f.role,.bool f.must,.bool f.fixed,.string f.de,.string f.we]] w fun e w'=>e=.returned (.bool (ca f))∧Bel w w':=by
 have yY:f.words.length≤1048576:=hs;have HB:Hid (ca f=(decide (f.words.length=0)&&f.to.toList.isEmpty&&decide (f.role=0))):=by show _=_;simp[ca,hk,kI f.words,Pl.aE]
 clear hs hk;cases hd:decide (f.words.length=0)
 all_goals
  have HD:=hid hd;simp only[decide_eq_false_iff_not,decide_eq_true_eq]at hd;go_enter Tryz.func194,Tryz.ntmps194
  go_wp2
  all_goals go_ret
  all_goals refine⟨Pl.ae ?_,ab br _⟩
  all_goals rw[HB.out,HD.out]
  all_goals clear HB HD
  all_goals go_light
  all_goals first|(simp_all;done)|(simp_all;omega)|(rw[Bool.eq_iff_iff];simp_all;done)|(rw[Bool.eq_iff_iff];simp_all;omega)
theorem FG (f:Fld) (b:Nat) (w:World) (hs:f.small) (hk:f.kind=1):
  Calls Tryz.prog 236 #[.agg #[.string f.nm,.int .i64 1,.int .i64 f.least,.int .i64 f.most,.slice (some ⟨b,0,none⟩) f.words.length f.words.length,.string f.to,.int .i64 f.role,.bool f.must,.bool f.fixed,.string f.de,.string f.we]] w fun e w'=>e=.returned (.bool (ca f))∧Bel w w':=by
 have yY:f.words.length≤1048576:=hs;have HB:Hid (ca f=(decide (f.words.length=0)&&f.to.toList.isEmpty&&decide (f.role=0))):=by show _=_;simp[ca,hk,kI f.words,Pl.aE]
 clear hs hk;cases hd:decide (f.words.length=0)
 all_goals
  have HD:=hid hd;simp only[decide_eq_false_iff_not,decide_eq_true_eq]at hd;go_enter Tryz.func236,Tryz.ntmps236
  go_wp2
  all_goals go_ret
  all_goals refine⟨Pl.ae ?_,ab br _⟩
  all_goals rw[HB.out,HD.out]
  all_goals clear HB HD
  all_goals go_light
  all_goals first|(simp_all;done)|(simp_all;omega)|(rw[Bool.eq_iff_iff];simp_all;done)|(rw[Bool.eq_iff_iff];simp_all;omega)
theorem zo (f:Fld) (b:Nat) (w:World) (hs:f.small) (hk:f.kind=2):
  Calls Tryz.prog 194 #[.agg #[.string f.nm,.int .i64 2,.int .i64 f.least,.int .i64 f.most,.slice (some ⟨b,0,none⟩) f.words.length f.words.length,.string f.to,.int .i64 f.role,.bool f.must,.bool f.fixed,.string f.de,.string f.we]] w fun e w'=>e=.returned (.bool (ca f))∧Bel w w':=by
 have yY:f.words.length≤1048576:=hs;have HB:Hid (ca f=(decide (f.least=0)&&decide (f.most=0)&&f.to.toList.isEmpty&&decide (f.role=0)&&f.we.toList.isEmpty)):=by show _=_;simp[ca,hk,Pl.aE]
 clear hs hk;go_enter Tryz.func194,Tryz.ntmps194
 go_wp2
 all_goals go_ret
 all_goals refine⟨Pl.ae ?_,ab br _⟩
 all_goals rw[HB.out]
 all_goals clear HB
 all_goals go_light
 all_goals first|(simp_all;done)|(simp_all;omega)|(rw[Bool.eq_iff_iff];simp_all;done)|(rw[Bool.eq_iff_iff];simp_all;omega)
theorem FA (f:Fld) (b:Nat) (w:World) (hs:f.small) (hk:f.kind=2):
  Calls Tryz.prog 239 #[.agg #[.string f.nm,.int .i64 2,.int .i64 f.least,.int .i64 f.most,.slice (some ⟨b,0,none⟩) f.words.length f.words.length,.string f.to,.int .i64 f.role,.bool f.must,.bool f.fixed,.string f.de,.string f.we]] w fun e w'=>e=.returned (.bool (ca f))∧Bel w w':=by
 have yY:f.words.length≤1048576:=hs;have HB:Hid (ca f=(decide (f.least=0)&&decide (f.most=0)&&f.to.toList.isEmpty&&decide (f.role=0)&&f.we.toList.isEmpty)):=by show _=_;simp[ca,hk,Pl.aE]
 clear hs hk;go_enter Tryz.func239,Tryz.ntmps239
 go_wp2
 all_goals go_ret
 all_goals refine⟨Pl.ae ?_,ab br _⟩
 all_goals rw[HB.out]
 all_goals clear HB
 all_goals go_light
 all_goals first|(simp_all;done)|(simp_all;omega)|(rw[Bool.eq_iff_iff];simp_all;done)|(rw[Bool.eq_iff_iff];simp_all;omega)
theorem zG (f:Fld) (b:Nat) (w:World) (hs:f.small) (hk:f.kind=3):
  Calls Tryz.prog 194 #[.agg #[.string f.nm,.int .i64 3,.int .i64 f.least,.int .i64 f.most,.slice (some ⟨b,0,none⟩) f.words.length f.words.length,.string f.to,.int .i64 f.role,.bool f.must,.bool f.fixed,.string f.de,.string f.we]] w fun e w'=>e=.returned (.bool (ca f))∧Bel w w':=by
 have yY:f.words.length≤1048576:=hs;have HB:Hid (ca f=(decide (f.words.length=0)&&f.to.toList.isEmpty&&decide (f.role=0)&&f.we.toList.isEmpty)):=by show _=_;simp[ca,hk,kI f.words,Pl.aE]
 clear hs hk;cases hd:decide (f.words.length=0)
 all_goals
  have HD:=hid hd;simp only[decide_eq_false_iff_not,decide_eq_true_eq]at hd;go_enter Tryz.func194,Tryz.ntmps194
  go_wp2
  all_goals go_ret
  all_goals refine⟨Pl.ae ?_,ab br _⟩
  all_goals rw[HB.out,HD.out]
  all_goals clear HB HD
  all_goals go_light
  all_goals first|(simp_all;done)|(simp_all;omega)|(rw[Bool.eq_iff_iff];simp_all;done)|(rw[Bool.eq_iff_iff];simp_all;omega)
theorem E5 (f:Fld) (b:Nat) (w:World) (hs:f.small) (hk:f.kind=3):
  Calls Tryz.prog 244 #[.agg #[.string f.nm,.int .i64 3,.int .i64 f.least,.int .i64 f.most,.slice (some ⟨b,0,none⟩) f.words.length f.words.length,.string f.to,.int .i64 f.role,.bool f.must,.bool f.fixed,.string f.de,.string f.we]] w fun e w'=>e=.returned (.bool (ca f))∧Bel w w':=by
 have yY:f.words.length≤1048576:=hs;have HB:Hid (ca f=(decide (f.words.length=0)&&f.to.toList.isEmpty&&decide (f.role=0)&&f.we.toList.isEmpty)):=by show _=_;simp[ca,hk,kI f.words,Pl.aE]
 clear hs hk;cases hd:decide (f.words.length=0)
 all_goals
  have HD:=hid hd;simp only[decide_eq_false_iff_not,decide_eq_true_eq]at hd;go_enter Tryz.func244,Tryz.ntmps244
  go_wp2
  all_goals go_ret
  all_goals refine⟨Pl.ae ?_,ab br _⟩
  all_goals rw[HB.out,HD.out]
  all_goals clear HB HD
  all_goals go_light
  all_goals first|(simp_all;done)|(simp_all;omega)|(rw[Bool.eq_iff_iff];simp_all;done)|(rw[Bool.eq_iff_iff];simp_all;omega)
theorem A8 (f:Fld) (b:Nat) (w:World) (hs:f.small) (hk:f.kind=4):
  Calls Tryz.prog 194 #[.agg #[.string f.nm,.int .i64 4,.int .i64 f.least,.int .i64 f.most,.slice (some ⟨b,0,none⟩) f.words.length f.words.length,.string f.to,.int .i64 f.role,.bool f.must,.bool f.fixed,.string f.de,.string f.we]] w fun e w'=>e=.returned (.bool (ca f))∧Bel w w':=by
 have yY:f.words.length≤1048576:=hs;have HB:Hid (ca f=(decide (f.least=0)&&decide (f.most=0)&&decide (f.words.length=0)&&f.we.toList.isEmpty)):=by show _=_;simp[ca,hk,kI f.words,Pl.aE]
 clear hs hk;cases hd:decide (f.words.length=0)
 all_goals
  have HD:=hid hd;simp only[decide_eq_false_iff_not,decide_eq_true_eq]at hd;go_enter Tryz.func194,Tryz.ntmps194
  go_wp2
  all_goals go_ret
  all_goals refine⟨Pl.ae ?_,ab br _⟩
  all_goals rw[HB.out,HD.out]
  all_goals clear HB HD
  all_goals go_light
  all_goals first|(simp_all;done)|(simp_all;omega)|(rw[Bool.eq_iff_iff];simp_all;done)|(rw[Bool.eq_iff_iff];simp_all;omega)
theorem FN (f:Fld) (b:Nat) (w:World) (hs:f.small) (hk:f.kind=4):
  Calls Tryz.prog 247 #[.agg #[.string f.nm,.int .i64 4,.int .i64 f.least,.int .i64 f.most,.slice (some ⟨b,0,none⟩) f.words.length f.words.length,.string f.to,.int .i64 f.role,.bool f.must,.bool f.fixed,.string f.de,.string f.we]] w fun e w'=>e=.returned (.bool (ca f))∧Bel w w':=by
 have yY:f.words.length≤1048576:=hs;have HB:Hid (ca f=(decide (f.least=0)&&decide (f.most=0)&&decide (f.words.length=0)&&f.we.toList.isEmpty)):=by show _=_;simp[ca,hk,kI f.words,Pl.aE]
 clear hs hk;cases hd:decide (f.words.length=0)
 all_goals
  have HD:=hid hd;simp only[decide_eq_false_iff_not,decide_eq_true_eq]at hd;go_enter Tryz.func247,Tryz.ntmps247
  go_wp2
  all_goals go_ret
  all_goals refine⟨Pl.ae ?_,ab br _⟩
  all_goals rw[HB.out,HD.out]
  all_goals clear HB HD
  all_goals go_light
  all_goals first|(simp_all;done)|(simp_all;omega)|(rw[Bool.eq_iff_iff];simp_all;done)|(rw[Bool.eq_iff_iff];simp_all;omega)
structure eE (w:World) (b:Nat) (f:Fld):Prop where
 lt:b<w.heap.size
 small:f.small
 sized:f.sized
 sizes:∀ i,i<f.words.length→(f.words.getD i ByteArray.empty).size≤maxLen
 cells:∀ i,i<f.words.length→w.cell? ⟨b,0+i,none⟩=some (.string (f.words.getD i ByteArray.empty))
theorem eE.later {w w':World} {b:Nat} {f:Fld} (h:eE w b f) (hb:Bel w w'):eE w' b f:=
 ⟨lo h.lt hb.size,h.small,h.sized,h.sizes,fun i hi=>(hb.cell (p:=⟨b,0+i,none⟩) h.lt).trans (h.cells i hi)⟩
theorem uI (nm:ByteArray) (kind least most:Int) (vs:Value) (to:ByteArray) (role:Int) (must fixed:Bool) (de we:ByteArray) (w:World):(method 393 268 (.agg #[.string nm,.int .i64 kind,.int .i64 least,.int .i64 most,vs,.string to,.int .i64 role,.bool must,.bool fixed,.string de,.string we]) "loop.example/wharfdesk/impl.bare").run Tryz.prog w=.ok (236,.agg #[.string nm,.int .i64 kind,.int .i64 least,.int .i64 most,vs,.string to,.int .i64 role,.bool must,.bool fixed,.string de,.string we]) w:=by kernel_rfl
theorem sJ (nm:ByteArray) (kind least most:Int) (vs:Value) (to:ByteArray) (role:Int) (must fixed:Bool) (de we:ByteArray) (w:World):(method 393 268 (.agg #[.string nm,.int .i64 kind,.int .i64 least,.int .i64 most,vs,.string to,.int .i64 role,.bool must,.bool fixed,.string de,.string we]) "loop.example/wharfdesk/impl.bounded").run Tryz.prog w=.ok (237,.agg #[.string nm,.int .i64 kind,.int .i64 least,.int .i64 most,vs,.string to,.int .i64 role,.bool must,.bool fixed,.string de,.string we]) w:=by kernel_rfl
theorem uM (nm:ByteArray) (kind least most:Int) (vs:Value) (to:ByteArray) (role:Int) (must fixed:Bool) (de we:ByteArray) (w:World):(method 393 270 (.agg #[.string nm,.int .i64 kind,.int .i64 least,.int .i64 most,vs,.string to,.int .i64 role,.bool must,.bool fixed,.string de,.string we]) "loop.example/wharfdesk/impl.bare").run Tryz.prog w=.ok (239,.agg #[.string nm,.int .i64 kind,.int .i64 least,.int .i64 most,vs,.string to,.int .i64 role,.bool must,.bool fixed,.string de,.string we]) w:=by kernel_rfl
theorem sU (nm:ByteArray) (kind least most:Int) (vs:Value) (to:ByteArray) (role:Int) (must fixed:Bool) (de we:ByteArray) (w:World):(method 393 270 (.agg #[.string nm,.int .i64 kind,.int .i64 least,.int .i64 most,vs,.string to,.int .i64 role,.bool must,.bool fixed,.string de,.string we]) "loop.example/wharfdesk/impl.bounded").run Tryz.prog w=.ok (240,.agg #[.string nm,.int .i64 kind,.int .i64 least,.int .i64 most,vs,.string to,.int .i64 role,.bool must,.bool fixed,.string de,.string we]) w:=by kernel_rfl
theorem uu6 (nm:ByteArray) (kind least most:Int) (vs:Value) (to:ByteArray) (role:Int) (must fixed:Bool) (de we:ByteArray) (w:World):(method 393 271 (.agg #[.string nm,.int .i64 kind,.int .i64 least,.int .i64 most,vs,.string to,.int .i64 role,.bool must,.bool fixed,.string de,.string we]) "loop.example/wharfdesk/impl.bare").run Tryz.prog w=.ok (244,.agg #[.string nm,.int .i64 kind,.int .i64 least,.int .i64 most,vs,.string to,.int .i64 role,.bool must,.bool fixed,.string de,.string we]) w:=by kernel_rfl
theorem sE (nm:ByteArray) (kind least most:Int) (vs:Value) (to:ByteArray) (role:Int) (must fixed:Bool) (de we:ByteArray) (w:World):(method 393 271 (.agg #[.string nm,.int .i64 kind,.int .i64 least,.int .i64 most,vs,.string to,.int .i64 role,.bool must,.bool fixed,.string de,.string we]) "loop.example/wharfdesk/impl.bounded").run Tryz.prog w=.ok (245,.agg #[.string nm,.int .i64 kind,.int .i64 least,.int .i64 most,vs,.string to,.int .i64 role,.bool must,.bool fixed,.string de,.string we]) w:=by kernel_rfl
theorem uj (nm:ByteArray) (kind least most:Int) (vs:Value) (to:ByteArray) (role:Int) (must fixed:Bool) (de we:ByteArray) (w:World):(method 393 272 (.agg #[.string nm,.int .i64 kind,.int .i64 least,.int .i64 most,vs,.string to,.int .i64 role,.bool must,.bool fixed,.string de,.string we]) "loop.example/wharfdesk/impl.bare").run Tryz.prog w=.ok (247,.agg #[.string nm,.int .i64 kind,.int .i64 least,.int .i64 most,vs,.string to,.int .i64 role,.bool must,.bool fixed,.string de,.string we]) w:=by kernel_rfl
theorem sR (nm:ByteArray) (kind least most:Int) (vs:Value) (to:ByteArray) (role:Int) (must fixed:Bool) (de we:ByteArray) (w:World):(method 393 272 (.agg #[.string nm,.int .i64 kind,.int .i64 least,.int .i64 most,vs,.string to,.int .i64 role,.bool must,.bool fixed,.string de,.string we]) "loop.example/wharfdesk/impl.bounded").run Tryz.prog w=.ok (248,.agg #[.string nm,.int .i64 kind,.int .i64 least,.int .i64 most,vs,.string to,.int .i64 role,.bool must,.bool fixed,.string de,.string we]) w:=by kernel_rfl
theorem uv (f:Fld) (b B:Nat) (ss:List Shp) (w:World) (hk:f.kind=1) (h:bh w B ss) (hp:eE w b f):
  Calls Tryz.prog 196 #[.slice (some ⟨B,0,none⟩) ss.length ss.length,.agg #[.string f.nm,.int .i64 1,.int .i64 f.least,.int .i64 f.most,.slice (some ⟨b,0,none⟩) f.words.length f.words.length,.string f.to,.int .i64 f.role,.bool f.must,.bool f.fixed,.string f.de,.string f.we]] w fun e w'=>e=.returned (.bool (aD ss f))∧Bel w w':=by
 have HP:=hid hp;have HL:=hid h;have HO:Hid (aD ss f=(ca f&&aL ss f&&gi f)):=by show _=_;simp[aD,isKind,hk]
 have lL:Hid (∀ W,Bel w W→Calls Tryz.prog 237 #[.agg #[.string f.nm,.int .i64 1,.int .i64 f.least,.int .i64 f.most,.slice (some ⟨b,0,none⟩) f.words.length f.words.length,.string f.to,.int .i64 f.role,.bool f.must,.bool f.fixed,.string f.de,.string f.we],.slice (some ⟨B,0,none⟩) ss.length ss.length] W fun e w'=>e=.returned (.bool (aL ss f))∧Bel W w'):=by
  intro W hW;have Q:=HP.out.later hW
  first|exact xP f b _ ss _ hk HP.out.sized.2.2.2|exact absurd Q.lt (by omega)
 have cz:=hid fun (W:World)=>FG f b W HP.out.small hk;have iN:Hid (∀ W,Bel w W→Calls Tryz.prog 198 #[.iface 268 (.agg #[.string f.nm,.int .i64 1,.int .i64 f.least,.int .i64 f.most,.slice (some ⟨b,0,none⟩) f.words.length f.words.length,.string f.to,.int .i64 f.role,.bool f.must,.bool f.fixed,.string f.de,.string f.we]),.string f.de] W fun e w'=>e=.returned (.bool (dC f f.de))∧Bel W w'):=by
  intro W hW;have Q:=HP.out.later hW;have e:dC f f.de=Pl.fits 1 f.least f.most f.words f.de:=by rw[dC,hk]
  rw[e,← Eu f.least f.most f.words f.de]
  first|exact pg f.nm 1 f.least f.most _ f.to f.role f.must f.fixed f.de f.we f.de W HP.out.sized.2.2.1|exact absurd Q.lt (by omega)
 clear hp h hk;have gB:=uI f.nm 1 f.least f.most (.slice (some ⟨b,0,none⟩) f.words.length f.words.length) f.to f.role f.must f.fixed f.de f.we;have hH:=sJ f.nm 1 f.least f.most (.slice (some ⟨b,0,none⟩) f.words.length f.words.length) f.to f.role f.must f.fixed f.de f.we;go_enter Tryz.func196,Tryz.ntmps196
 go_wp2_with fail
 refine(sM _ _ _ _ _ _ _ _ _ _ _).mono ?_;rintro e w1 ⟨rfl,bl⟩;have vt:=aa (ab (Below.refl w.heap.size w) (.cells #[.string f.nm,.int .i64 1,.int .i64 f.least,.int .i64 f.most,.slice (some ⟨b,0,none⟩) f.words.length f.words.length,.string f.to,.int .i64 f.role,.bool f.must,.bool f.fixed,.string f.de,.string f.we] 122)) bl;have k1:∀ o,w1.cell? ⟨w.heap.size,o,none⟩=(w.alloc (.cells #[.string f.nm,.int .i64 1,.int .i64 f.least,.int .i64 f.most,.slice (some ⟨b,0,none⟩) f.words.length f.words.length,.string f.to,.int .i64 f.role,.bool f.must,.bool f.fixed,.string f.de,.string f.we] 122)).cell? ⟨w.heap.size,o,none⟩:=fun o=>bl.cell (p:=⟨w.heap.size,o,none⟩) (by simp);have z1:w.heap.size<w1.heap.size:=by have:=bl.size;simp at this;omega
 clear bl;go_wp2_with fail
 refine(cz.out _).mono ?_;rintro e w2 ⟨rfl,aA⟩;have bE:=aa vt aA;have k2:∀ o,w2.cell? ⟨w.heap.size,o,none⟩=(w.alloc (.cells #[.string f.nm,.int .i64 1,.int .i64 f.least,.int .i64 f.most,.slice (some ⟨b,0,none⟩) f.words.length f.words.length,.string f.to,.int .i64 f.role,.bool f.must,.bool f.fixed,.string f.de,.string f.we] 122)).cell? ⟨w.heap.size,o,none⟩:=fun o=>(aA.cell (p:=⟨w.heap.size,o,none⟩) z1).trans (k1 o);have z2:=lo z1 aA.size;clear aA k1 vt z1 cz gB;cases hba:ca f
 ·have HF:Hid (aD ss f=false):=by show _=_;rw[HO.out,hba];rfl
  go_wp2;go_ret;exact⟨Pl.ae HF.out.symm,bE⟩
 go_wp2_with fail
 refine(lL.out _ bE).mono ?_;rintro e w3 ⟨rfl,aO⟩;have eX:=aa bE aO;have k3:∀ o,w3.cell? ⟨w.heap.size,o,none⟩=(w.alloc (.cells #[.string f.nm,.int .i64 1,.int .i64 f.least,.int .i64 f.most,.slice (some ⟨b,0,none⟩) f.words.length f.words.length,.string f.to,.int .i64 f.role,.bool f.must,.bool f.fixed,.string f.de,.string f.we] 122)).cell? ⟨w.heap.size,o,none⟩:=fun o=>(aO.cell (p:=⟨w.heap.size,o,none⟩) z2).trans (k2 o);clear aO k2 bE z2 lL hH;cases hbo:aL ss f
 ·have HF:Hid (aD ss f=false):=by show _=_;rw[HO.out,hbo];simp
  go_wp2;go_ret;exact⟨Pl.ae HF.out.symm,eX⟩
 cases hem:f.de.toList.isEmpty
 ·have HF:Hid (aD ss f=dC f f.de):=by show _=_;rw[HO.out,hba,hbo];simp[gi,Pl.aE,hem]
  go_wp2_with fail
  refine(iN.out _ eX).mono ?_;rintro e w4 ⟨rfl,cA⟩;have Gb:=aa eX cA;go_wp2;go_ret;exact⟨Pl.ae HF.out.symm,Gb⟩
 ·have HF:Hid (aD ss f=true):=by show _=_;rw[HO.out,hba,hbo];simp[gi,Pl.aE,hem]
  go_wp2;go_ret;exact⟨Pl.ae HF.out.symm,eX⟩
theorem tM (f:Fld) (b B:Nat) (ss:List Shp) (w:World) (hk:f.kind=2) (h:bh w B ss) (hp:eE w b f):
  Calls Tryz.prog 196 #[.slice (some ⟨B,0,none⟩) ss.length ss.length,.agg #[.string f.nm,.int .i64 2,.int .i64 f.least,.int .i64 f.most,.slice (some ⟨b,0,none⟩) f.words.length f.words.length,.string f.to,.int .i64 f.role,.bool f.must,.bool f.fixed,.string f.de,.string f.we]] w fun e w'=>e=.returned (.bool (aD ss f))∧Bel w w':=by
 have HP:=hid hp;have HL:=hid h;have HO:Hid (aD ss f=(ca f&&aL ss f&&gi f)):=by show _=_;simp[aD,isKind,hk]
 have lL:Hid (∀ W,Bel w W→Calls Tryz.prog 240 #[.agg #[.string f.nm,.int .i64 2,.int .i64 f.least,.int .i64 f.most,.slice (some ⟨b,0,none⟩) f.words.length f.words.length,.string f.to,.int .i64 f.role,.bool f.must,.bool f.fixed,.string f.de,.string f.we],.slice (some ⟨B,0,none⟩) ss.length ss.length] W fun e w'=>e=.returned (.bool (aL ss f))∧Bel W w'):=by
  intro W hW;have Q:=HP.out.later hW
  first|exact yv f b _ ss _ hk HP.out.small Q.lt Q.sizes Q.cells|exact absurd Q.lt (by omega)
 have cz:=hid fun (W:World)=>FA f b W HP.out.small hk;have iN:Hid (∀ W,Bel w W→Calls Tryz.prog 198 #[.iface 270 (.agg #[.string f.nm,.int .i64 2,.int .i64 f.least,.int .i64 f.most,.slice (some ⟨b,0,none⟩) f.words.length f.words.length,.string f.to,.int .i64 f.role,.bool f.must,.bool f.fixed,.string f.de,.string f.we]),.string f.de] W fun e w'=>e=.returned (.bool (dC f f.de))∧Bel W w'):=by
  intro W hW;have Q:=HP.out.later hW;have e:dC f f.de=Pl.fits 2 f.least f.most f.words f.de:=by rw[dC,hk]
  rw[e,← El f.least f.most f.words f.de]
  first|exact oK f.nm 2 f.least f.most b 0 f.words.length f.to f.role f.must f.fixed f.de f.we f.de f.words W Q.lt (by have:f.words.length≤1048576:=HP.out.small;unfold maxLen;omega) Q.cells|exact absurd Q.lt (by omega)
 clear hp h hk;have gB:=uM f.nm 2 f.least f.most (.slice (some ⟨b,0,none⟩) f.words.length f.words.length) f.to f.role f.must f.fixed f.de f.we;have hH:=sU f.nm 2 f.least f.most (.slice (some ⟨b,0,none⟩) f.words.length f.words.length) f.to f.role f.must f.fixed f.de f.we;go_enter Tryz.func196,Tryz.ntmps196
 go_wp2_with fail
 refine(sF _ _ _ _ _ _ _ _ _ _ _).mono ?_;rintro e w1 ⟨rfl,bl⟩;have vt:=aa (ab (Below.refl w.heap.size w) (.cells #[.string f.nm,.int .i64 2,.int .i64 f.least,.int .i64 f.most,.slice (some ⟨b,0,none⟩) f.words.length f.words.length,.string f.to,.int .i64 f.role,.bool f.must,.bool f.fixed,.string f.de,.string f.we] 122)) bl;have k1:∀ o,w1.cell? ⟨w.heap.size,o,none⟩=(w.alloc (.cells #[.string f.nm,.int .i64 2,.int .i64 f.least,.int .i64 f.most,.slice (some ⟨b,0,none⟩) f.words.length f.words.length,.string f.to,.int .i64 f.role,.bool f.must,.bool f.fixed,.string f.de,.string f.we] 122)).cell? ⟨w.heap.size,o,none⟩:=fun o=>bl.cell (p:=⟨w.heap.size,o,none⟩) (by simp);have z1:w.heap.size<w1.heap.size:=by have:=bl.size;simp at this;omega
 clear bl;go_wp2_with fail
 refine(cz.out _).mono ?_;rintro e w2 ⟨rfl,aA⟩;have bE:=aa vt aA;have k2:∀ o,w2.cell? ⟨w.heap.size,o,none⟩=(w.alloc (.cells #[.string f.nm,.int .i64 2,.int .i64 f.least,.int .i64 f.most,.slice (some ⟨b,0,none⟩) f.words.length f.words.length,.string f.to,.int .i64 f.role,.bool f.must,.bool f.fixed,.string f.de,.string f.we] 122)).cell? ⟨w.heap.size,o,none⟩:=fun o=>(aA.cell (p:=⟨w.heap.size,o,none⟩) z1).trans (k1 o);have z2:=lo z1 aA.size;clear aA k1 vt z1 cz gB;cases hba:ca f
 ·have HF:Hid (aD ss f=false):=by show _=_;rw[HO.out,hba];rfl
  go_wp2;go_ret;exact⟨Pl.ae HF.out.symm,bE⟩
 go_wp2_with fail
 refine(lL.out _ bE).mono ?_;rintro e w3 ⟨rfl,aO⟩;have eX:=aa bE aO;have k3:∀ o,w3.cell? ⟨w.heap.size,o,none⟩=(w.alloc (.cells #[.string f.nm,.int .i64 2,.int .i64 f.least,.int .i64 f.most,.slice (some ⟨b,0,none⟩) f.words.length f.words.length,.string f.to,.int .i64 f.role,.bool f.must,.bool f.fixed,.string f.de,.string f.we] 122)).cell? ⟨w.heap.size,o,none⟩:=fun o=>(aO.cell (p:=⟨w.heap.size,o,none⟩) z2).trans (k2 o);clear aO k2 bE z2 lL hH;cases hbo:aL ss f
 ·have HF:Hid (aD ss f=false):=by show _=_;rw[HO.out,hbo];simp
  go_wp2;go_ret;exact⟨Pl.ae HF.out.symm,eX⟩
 cases hem:f.de.toList.isEmpty
 ·have HF:Hid (aD ss f=dC f f.de):=by show _=_;rw[HO.out,hba,hbo];simp[gi,Pl.aE,hem]
  go_wp2_with fail
  refine(iN.out _ eX).mono ?_;rintro e w4 ⟨rfl,cA⟩;have Gb:=aa eX cA;go_wp2;go_ret;exact⟨Pl.ae HF.out.symm,Gb⟩
 ·have HF:Hid (aD ss f=true):=by show _=_;rw[HO.out,hba,hbo];simp[gi,Pl.aE,hem]
  go_wp2;go_ret;exact⟨Pl.ae HF.out.symm,eX⟩
theorem uR (f:Fld) (b B:Nat) (ss:List Shp) (w:World) (hk:f.kind=3) (h:bh w B ss) (hp:eE w b f):
  Calls Tryz.prog 196 #[.slice (some ⟨B,0,none⟩) ss.length ss.length,.agg #[.string f.nm,.int .i64 3,.int .i64 f.least,.int .i64 f.most,.slice (some ⟨b,0,none⟩) f.words.length f.words.length,.string f.to,.int .i64 f.role,.bool f.must,.bool f.fixed,.string f.de,.string f.we]] w fun e w'=>e=.returned (.bool (aD ss f))∧Bel w w':=by
 have HP:=hid hp;have HL:=hid h;have HO:Hid (aD ss f=(ca f&&aL ss f&&gi f)):=by show _=_;simp[aD,isKind,hk]
 have lL:Hid (∀ W,Bel w W→Calls Tryz.prog 245 #[.agg #[.string f.nm,.int .i64 3,.int .i64 f.least,.int .i64 f.most,.slice (some ⟨b,0,none⟩) f.words.length f.words.length,.string f.to,.int .i64 f.role,.bool f.must,.bool f.fixed,.string f.de,.string f.we],.slice (some ⟨B,0,none⟩) ss.length ss.length] W fun e w'=>e=.returned (.bool (aL ss f))∧Bel W w'):=by
  intro W hW;have Q:=HP.out.later hW
  first|exact ym f b _ ss _ hk|exact absurd Q.lt (by omega)
 have cz:=hid fun (W:World)=>E5 f b W HP.out.small hk;have iN:Hid (∀ W,Bel w W→Calls Tryz.prog 198 #[.iface 271 (.agg #[.string f.nm,.int .i64 3,.int .i64 f.least,.int .i64 f.most,.slice (some ⟨b,0,none⟩) f.words.length f.words.length,.string f.to,.int .i64 f.role,.bool f.must,.bool f.fixed,.string f.de,.string f.we]),.string f.de] W fun e w'=>e=.returned (.bool (dC f f.de))∧Bel W w'):=by
  intro W hW;have Q:=HP.out.later hW;have e:dC f f.de=Pl.fits 3 f.least f.most f.words f.de:=by rw[dC,hk]
  rw[e,← Ew f.least f.most f.words f.de]
  first|exact oD f.nm 3 f.least f.most _ f.to f.role f.must f.fixed f.de f.we f.de W HP.out.sized.2.2.1|exact absurd Q.lt (by omega)
 clear hp h hk;have gB:=uu6 f.nm 3 f.least f.most (.slice (some ⟨b,0,none⟩) f.words.length f.words.length) f.to f.role f.must f.fixed f.de f.we;have hH:=sE f.nm 3 f.least f.most (.slice (some ⟨b,0,none⟩) f.words.length f.words.length) f.to f.role f.must f.fixed f.de f.we;go_enter Tryz.func196,Tryz.ntmps196
 go_wp2_with fail
 refine(sT _ _ _ _ _ _ _ _ _ _ _).mono ?_;rintro e w1 ⟨rfl,bl⟩;have vt:=aa (ab (Below.refl w.heap.size w) (.cells #[.string f.nm,.int .i64 3,.int .i64 f.least,.int .i64 f.most,.slice (some ⟨b,0,none⟩) f.words.length f.words.length,.string f.to,.int .i64 f.role,.bool f.must,.bool f.fixed,.string f.de,.string f.we] 122)) bl;have k1:∀ o,w1.cell? ⟨w.heap.size,o,none⟩=(w.alloc (.cells #[.string f.nm,.int .i64 3,.int .i64 f.least,.int .i64 f.most,.slice (some ⟨b,0,none⟩) f.words.length f.words.length,.string f.to,.int .i64 f.role,.bool f.must,.bool f.fixed,.string f.de,.string f.we] 122)).cell? ⟨w.heap.size,o,none⟩:=fun o=>bl.cell (p:=⟨w.heap.size,o,none⟩) (by simp);have z1:w.heap.size<w1.heap.size:=by have:=bl.size;simp at this;omega
 clear bl;go_wp2_with fail
 refine(cz.out _).mono ?_;rintro e w2 ⟨rfl,aA⟩;have bE:=aa vt aA;have k2:∀ o,w2.cell? ⟨w.heap.size,o,none⟩=(w.alloc (.cells #[.string f.nm,.int .i64 3,.int .i64 f.least,.int .i64 f.most,.slice (some ⟨b,0,none⟩) f.words.length f.words.length,.string f.to,.int .i64 f.role,.bool f.must,.bool f.fixed,.string f.de,.string f.we] 122)).cell? ⟨w.heap.size,o,none⟩:=fun o=>(aA.cell (p:=⟨w.heap.size,o,none⟩) z1).trans (k1 o);have z2:=lo z1 aA.size;clear aA k1 vt z1 cz gB;cases hba:ca f
 ·have HF:Hid (aD ss f=false):=by show _=_;rw[HO.out,hba];rfl
  go_wp2;go_ret;exact⟨Pl.ae HF.out.symm,bE⟩
 go_wp2_with fail
 refine(lL.out _ bE).mono ?_;rintro e w3 ⟨rfl,aO⟩;have eX:=aa bE aO;have k3:∀ o,w3.cell? ⟨w.heap.size,o,none⟩=(w.alloc (.cells #[.string f.nm,.int .i64 3,.int .i64 f.least,.int .i64 f.most,.slice (some ⟨b,0,none⟩) f.words.length f.words.length,.string f.to,.int .i64 f.role,.bool f.must,.bool f.fixed,.string f.de,.string f.we] 122)).cell? ⟨w.heap.size,o,none⟩:=fun o=>(aO.cell (p:=⟨w.heap.size,o,none⟩) z2).trans (k2 o);clear aO k2 bE z2 lL hH;cases hbo:aL ss f
 ·have HF:Hid (aD ss f=false):=by show _=_;rw[HO.out,hbo];simp
  go_wp2;go_ret;exact⟨Pl.ae HF.out.symm,eX⟩
 cases hem:f.de.toList.isEmpty
 ·have HF:Hid (aD ss f=dC f f.de):=by show _=_;rw[HO.out,hba,hbo];simp[gi,Pl.aE,hem]
  go_wp2_with fail
  refine(iN.out _ eX).mono ?_;rintro e w4 ⟨rfl,cA⟩;have Gb:=aa eX cA;go_wp2;go_ret;exact⟨Pl.ae HF.out.symm,Gb⟩
 ·have HF:Hid (aD ss f=true):=by show _=_;rw[HO.out,hba,hbo];simp[gi,Pl.aE,hem]
  go_wp2;go_ret;exact⟨Pl.ae HF.out.symm,eX⟩
theorem uu7 (f:Fld) (b B:Nat) (ss:List Shp) (w:World) (hk:f.kind=4) (h:bh w B ss) (hp:eE w b f):
  Calls Tryz.prog 196 #[.slice (some ⟨B,0,none⟩) ss.length ss.length,.agg #[.string f.nm,.int .i64 4,.int .i64 f.least,.int .i64 f.most,.slice (some ⟨b,0,none⟩) f.words.length f.words.length,.string f.to,.int .i64 f.role,.bool f.must,.bool f.fixed,.string f.de,.string f.we]] w fun e w'=>e=.returned (.bool (aD ss f))∧Bel w w':=by
 have HP:=hid hp;have HL:=hid h;have HO:Hid (aD ss f=(ca f&&aL ss f&&gi f)):=by show _=_;simp[aD,isKind,hk]
 have lL:Hid (∀ W,Bel w W→Calls Tryz.prog 248 #[.agg #[.string f.nm,.int .i64 4,.int .i64 f.least,.int .i64 f.most,.slice (some ⟨b,0,none⟩) f.words.length f.words.length,.string f.to,.int .i64 f.role,.bool f.must,.bool f.fixed,.string f.de,.string f.we],.slice (some ⟨B,0,none⟩) ss.length ss.length] W fun e w'=>e=.returned (.bool (aL ss f))∧Bel W w'):=by
  intro W hW;have Q:=HP.out.later hW
  first|exact xy f b B ss W hk (HL.out.later hW)|exact absurd Q.lt (by omega)
 have cz:=hid fun (W:World)=>FN f b W HP.out.small hk;have iN:Hid (∀ W,Bel w W→Calls Tryz.prog 198 #[.iface 272 (.agg #[.string f.nm,.int .i64 4,.int .i64 f.least,.int .i64 f.most,.slice (some ⟨b,0,none⟩) f.words.length f.words.length,.string f.to,.int .i64 f.role,.bool f.must,.bool f.fixed,.string f.de,.string f.we]),.string f.de] W fun e w'=>e=.returned (.bool (dC f f.de))∧Bel W w'):=by
  intro W hW;have Q:=HP.out.later hW;have e:dC f f.de=Pl.fits 4 f.least f.most f.words f.de:=by rw[dC,hk]
  rw[e,← Ex f.least f.most f.words f.de]
  first|exact nX f.nm 4 f.least f.most _ f.to f.role f.must f.fixed f.de f.we f.de W HP.out.sized.2.2.1|exact absurd Q.lt (by omega)
 clear hp h hk;have gB:=uj f.nm 4 f.least f.most (.slice (some ⟨b,0,none⟩) f.words.length f.words.length) f.to f.role f.must f.fixed f.de f.we;have hH:=sR f.nm 4 f.least f.most (.slice (some ⟨b,0,none⟩) f.words.length f.words.length) f.to f.role f.must f.fixed f.de f.we;go_enter Tryz.func196,Tryz.ntmps196
 go_wp2_with fail
 refine(sL _ _ _ _ _ _ _ _ _ _ _).mono ?_;rintro e w1 ⟨rfl,bl⟩;have vt:=aa (ab (Below.refl w.heap.size w) (.cells #[.string f.nm,.int .i64 4,.int .i64 f.least,.int .i64 f.most,.slice (some ⟨b,0,none⟩) f.words.length f.words.length,.string f.to,.int .i64 f.role,.bool f.must,.bool f.fixed,.string f.de,.string f.we] 122)) bl;have k1:∀ o,w1.cell? ⟨w.heap.size,o,none⟩=(w.alloc (.cells #[.string f.nm,.int .i64 4,.int .i64 f.least,.int .i64 f.most,.slice (some ⟨b,0,none⟩) f.words.length f.words.length,.string f.to,.int .i64 f.role,.bool f.must,.bool f.fixed,.string f.de,.string f.we] 122)).cell? ⟨w.heap.size,o,none⟩:=fun o=>bl.cell (p:=⟨w.heap.size,o,none⟩) (by simp);have z1:w.heap.size<w1.heap.size:=by have:=bl.size;simp at this;omega
 clear bl;go_wp2_with fail
 refine(cz.out _).mono ?_;rintro e w2 ⟨rfl,aA⟩;have bE:=aa vt aA;have k2:∀ o,w2.cell? ⟨w.heap.size,o,none⟩=(w.alloc (.cells #[.string f.nm,.int .i64 4,.int .i64 f.least,.int .i64 f.most,.slice (some ⟨b,0,none⟩) f.words.length f.words.length,.string f.to,.int .i64 f.role,.bool f.must,.bool f.fixed,.string f.de,.string f.we] 122)).cell? ⟨w.heap.size,o,none⟩:=fun o=>(aA.cell (p:=⟨w.heap.size,o,none⟩) z1).trans (k1 o);have z2:=lo z1 aA.size;clear aA k1 vt z1 cz gB;cases hba:ca f
 ·have HF:Hid (aD ss f=false):=by show _=_;rw[HO.out,hba];rfl
  go_wp2;go_ret;exact⟨Pl.ae HF.out.symm,bE⟩
 go_wp2_with fail
 refine(lL.out _ bE).mono ?_;rintro e w3 ⟨rfl,aO⟩;have eX:=aa bE aO;have k3:∀ o,w3.cell? ⟨w.heap.size,o,none⟩=(w.alloc (.cells #[.string f.nm,.int .i64 4,.int .i64 f.least,.int .i64 f.most,.slice (some ⟨b,0,none⟩) f.words.length f.words.length,.string f.to,.int .i64 f.role,.bool f.must,.bool f.fixed,.string f.de,.string f.we] 122)).cell? ⟨w.heap.size,o,none⟩:=fun o=>(aO.cell (p:=⟨w.heap.size,o,none⟩) z2).trans (k2 o);clear aO k2 bE z2 lL hH;cases hbo:aL ss f
 ·have HF:Hid (aD ss f=false):=by show _=_;rw[HO.out,hbo];simp
  go_wp2;go_ret;exact⟨Pl.ae HF.out.symm,eX⟩
 cases hem:f.de.toList.isEmpty
 ·have HF:Hid (aD ss f=dC f f.de):=by show _=_;rw[HO.out,hba,hbo];simp[gi,Pl.aE,hem]
  go_wp2_with fail
  refine(iN.out _ eX).mono ?_;rintro e w4 ⟨rfl,cA⟩;have Gb:=aa eX cA;go_wp2;go_ret;exact⟨Pl.ae HF.out.symm,Gb⟩
 ·have HF:Hid (aD ss f=true):=by show _=_;rw[HO.out,hba,hbo];simp[gi,Pl.aE,hem]
  go_wp2;go_ret;exact⟨Pl.ae HF.out.symm,eX⟩
end Go.Proofs.YtbiokpmdghmgcaaGreat
namespace Go.Proofs.YtbiokpmdghmgcaaGreat
set_option maxHeartbeats 40000000
open Go.RowKit
theorem pL (s:ByteArray) (w:World) (h1:1≤s.size) (h7:s.size≤7) (hl:Pl.lead s=false):
  Calls Tryz.prog 166 #[.string s] w fun e w'=>e=.returned (.int .i64 (Pl.jl s))∧w=w':=by
 have hb:(decide ((1:Int)≤(s.size:Int))&&decide ((s.size:Int)≤7))=true:=by simp;omega
 have HN:=hid hl;rw[Pl.nG s (by omega),Pl.lV]at hl;have HL:=hid hl;clear hl;by_cases h2:1<s.size
 all_goals
  try have h0:((s[0].toNat:Int)==48)=false:=by simpa [h2]using HL.out
  go_enter Tryz.func166,Tryz.ntmps166
  go_wp2_with (go_at_call 25;refine(bc _ _ _ _).mono ?_;rintro e w' ⟨rfl,rfl⟩)
  go_loop [3,4] (fun n i=>∃ k:Nat,k≤s.size∧i=.int .i64 k∧n=.int .i64 (Pl.cO (s.data.toList.take k))∧(s.data.toList.take k).all Pl.digit=true) (fun _ i=>s.size - (intOf i).toNat)
  case atStart=>exact⟨0,nz,rfl,rfl,rfl⟩
  case round=>
   obtain⟨k,hk,rfl,rfl,aw⟩:=hrel;have GH:=Pl.hN s k hk (by omega) aw;obtain⟨b1,b2⟩:=GH;have HA:=hid aw;clear aw;by_cases av:k<s.size
   ·have HS:=hid (Pl.kf s k av);by_cases hd:48≤(s[k].toNat:Int)∧(s[k].toNat:Int)≤57
    ·obtain⟨d1,d2⟩:=hd;go_wp2;go_round
     case rel=>exact⟨k+1,by omega,by go_num,by rw[HS.out];go_num,by rw[Pl.gR _ _ _ av,HA.out];simp[Pl.digit];omega⟩
     case measure=>simp[intOf];omega
    ·have HF:Hid (Pl.jl s= -1):=by
      show Pl.jl s= -1;have:s.data.toList.all Pl.digit=false:=Pl.all_false _ s k av (by rw[Bool.eq_false_iff];simp[Pl.digit];omega);simp[Pl.jl,Pl.dU,this]
     by_cases hd1:48≤(s[k].toNat:Int)
     all_goals
      go_wp2;go_ret;exact⟨Pl.aP HF.out.symm,rfl⟩
   ·have HF:Hid (Pl.jl s=Pl.cO (s.data.toList.take k)):=by
     show Pl.jl s=Pl.cO (s.data.toList.take k);have e:s.data.toList.take k=s.data.toList:=List.take_of_length_le (by simp;omega);have ha:=HA.out;rw[e]at ha ⊢;simp[Pl.jl,Pl.dU,ha,HN.out];omega
    go_wp2;go_ret;exact⟨Pl.aP HF.out.symm,rfl⟩
theorem jU (s:ByteArray) (w:World) (hs:s.size≤maxLen):
  Calls Tryz.prog 166 #[.string s] w fun e w'=>e=.returned (.int .i64 (Pl.jl s))∧w=w':=by
 unfold maxLen at hs;by_cases bA:1≤s.size∧s.size≤7
 ·obtain⟨h1,h7⟩:=bA;cases hl:Pl.lead s
  ·exact pL s w h1 h7 hl
  ·have HF:Hid (Pl.jl s= -1):=by show _=_;simp[Pl.jl,Pl.dU,hl]
   have hb:(decide ((1:Int)≤(s.size:Int))&&decide ((s.size:Int)≤7))=true:=by simp;omega
   rw[Pl.nG s (by omega),Pl.lV]at hl;simp only[Bool.and_eq_true,decide_eq_true_eq]at hl;obtain⟨h2,h0⟩:=hl;have h0':((s[0].toNat:Int)==48)=true:=h0;clear h0;go_enter Tryz.func166,Tryz.ntmps166
   go_wp2_with (go_at_call 25;refine(bc _ _ _ _).mono ?_;rintro e w' ⟨rfl,rfl⟩)
   go_ret;exact⟨Pl.aP HF.out.symm,rfl⟩
 ·have HF:Hid (Pl.jl s= -1):=by
   show Pl.jl s= -1;have:(decide (1≤s.size)&&decide (s.size≤7))=false:=by
    rw[Bool.eq_false_iff];simp;omega
   simp[Pl.jl,Pl.dU,this]
  have hb:(decide ((1:Int)≤(s.size:Int))&&decide ((s.size:Int)≤7))=false:=by
   rw[Bool.eq_false_iff];simp;omega
  clear bA;go_enter Tryz.func166,Tryz.ntmps166
  go_wp2_with (go_at_call 25;refine(bc _ _ _ _).mono ?_;rintro e w' ⟨rfl,rfl⟩)
  go_ret;exact⟨Pl.aP HF.out.symm,rfl⟩
theorem rY (s:ByteArray) (h:Pl.dU s=true):0≤Pl.cO s.data.toList∧Pl.cO s.data.toList≤9999999:=by
 simp only[Pl.dU,Bool.and_eq_true,decide_eq_true_eq]at h;have e:s.data.toList.take s.size=s.data.toList:=List.take_of_length_le (by simp);have:=Pl.hN s s.size nr (by omega) (by rw[e];exact h.2);rw[e]at this;exact this
theorem uO (nm:ByteArray) (least most:Int) (vs:Value) (to:ByteArray) (role:Int) (must fixed:Bool) (de we v:ByteArray) (ss:List ByteArray) (w:World) (hv:v.size≤maxLen):
  Calls Tryz.prog 120 #[.agg #[.string nm,.int .i64 1,.int .i64 least,.int .i64 most,vs,.string to,.int .i64 role,.bool must,.bool fixed,.string de,.string we],.string v] w
   fun e w'=>e=.returned (.bool (Pl.fits 1 least most ss v))∧Bel w w':=by
 cases hd:Pl.dU v
 ·have HF:Hid (Pl.fits 1 least most ss v=false):=by show _=_;simp[Pl.fits,hd]
  have HN:Hid (Pl.jl v= -1):=by show _=_;simp[Pl.jl,hd]
  clear hd;go_enter Tryz.func120,Tryz.ntmps120
  go_wp2_with fail
  refine(jU _ _ hv).mono ?_;rintro e w' ⟨rfl,rfl⟩;rw[HN.out];go_wp2;go_ret;exact⟨Pl.ae HF.out.symm,br.alloc nr _⟩
 ·have HF:Hid (Pl.fits 1 least most ss v=(decide (least≤Pl.cO v.data.toList)&&decide (Pl.cO v.data.toList≤most))):=by
   show Pl.fits 1 least most ss v=_;simp[Pl.fits,hd]
  have HN:Hid (Pl.jl v=Pl.cO v.data.toList):=by show _=_;simp[Pl.jl,hd]
  have hn:=(rY v hd).1;clear hd;go_enter Tryz.func120,Tryz.ntmps120
  go_wp2_with fail
  refine(jU _ _ hv).mono ?_;rintro e w' ⟨rfl,rfl⟩;rw[HN.out];go_wp2_with (go_at_call 25;refine(bc _ _ _ _).mono ?_;rintro e w' ⟨rfl,rfl⟩)
  go_ret;exact⟨Pl.ae HF.out.symm,br.alloc nr _⟩
theorem uZ (nm:ByteArray) (least most:Int) (b off cap:Nat) (to:ByteArray) (role:Int) (must fixed:Bool) (de we v:ByteArray) (ss:List ByteArray) (w:World)
  (hb:b<w.heap.size) (hl:ss.length≤maxLen) (hc:∀ i,i<ss.length→w.cell? ⟨b,off+i,none⟩=some (.string (ss.getD i ByteArray.empty))):
  Calls Tryz.prog 120 #[.agg #[.string nm,.int .i64 2,.int .i64 least,.int .i64 most,.slice (some ⟨b,off,none⟩) ss.length cap,.string to,.int .i64 role,.bool must,.bool fixed,.string de,.string we],.string v] w
   fun e w'=>e=.returned (.bool (Pl.fits 2 least most ss v))∧Bel w w':=by
 have HX:Hid (∀ o,Calls Tryz.prog 164 #[.slice (some ⟨b,off,none⟩) ss.length cap,.string v] (w.alloc o) fun e w'=>e=.returned (.bool (Pl.has ss v))∧(w.alloc o)=w'):=by
  intro o;refine qa b off cap ss v _ hl fun i hi=> ?_;rw[← hc i hi];exact(br.alloc nr o:Bel w _).cell (p:=⟨b,off+i,none⟩) hb
 clear hc;by_cases h1:1≤v.size
 ·have HF:Hid (Pl.fits 2 least most ss v=Pl.has ss v):=by show _=_;simp[Pl.fits,h1]
  have he:=Pl.fK v h1;go_enter Tryz.func120,Tryz.ntmps120
  go_wp2_with fail
  refine(HX.out _).mono ?_;rintro e w' ⟨rfl,rfl⟩;go_wp2;go_ret;exact⟨Pl.ae HF.out.symm,br.alloc nr _⟩
 ·have HF:Hid (Pl.fits 2 least most ss v=false):=by show _=_;simp[Pl.fits,h1]
  have he:=Pl.gF v h1;go_enter Tryz.func120,Tryz.ntmps120
  go_wp2;go_ret;exact⟨Pl.ae HF.out.symm,br.alloc nr _⟩
theorem uG (nm:ByteArray) (least most:Int) (vs:Value) (to:ByteArray) (role:Int) (must fixed:Bool) (de we v:ByteArray) (ss:List ByteArray) (w:World) (hv:v.size≤maxLen):
  Calls Tryz.prog 120 #[.agg #[.string nm,.int .i64 3,.int .i64 least,.int .i64 most,vs,.string to,.int .i64 role,.bool must,.bool fixed,.string de,.string we],.string v] w
   fun e w'=>e=.returned (.bool (Pl.fits 3 least most ss v))∧Bel w w':=by
 unfold maxLen at hv;go_enter Tryz.func120,Tryz.ntmps120
 go_wp2;go_loop [6] (fun i=>∃ k:Nat,k≤v.size∧i=.int .i64 k∧(v.data.toList.take k).all Pl.fl=true) (fun i=>v.size - (intOf i).toNat)
 case atStart=>exact⟨0,nz,rfl,rfl⟩
 case round=>
  obtain⟨k,hk,rfl,aw⟩:=hrel;have HA:=hid aw;clear aw;by_cases av:k<v.size
  ·have hby0:(0:Int)≤(v[k].toNat:Int):=by omega
   have hby:(v[k].toNat:Int)≤255:=by have:=v[k].toNat_lt;omega
   by_cases hd:33≤(v[k].toNat:Int)∧(v[k].toNat:Int)≤126
   ·have hb:(decide ((33:Int)≤(v[k].toNat:Int))&&decide ((v[k].toNat:Int)≤126))=true:=by simp;omega
    have HT:Hid (Pl.fl v[k]=true):=by show _=_;simp[Pl.fl];omega
    clear hd;go_wp2_with (go_at_call 25;refine(bc _ _ _ _).mono ?_;rintro e w' ⟨rfl,rfl⟩)
    go_round
    case rel=>exact⟨k+1,by omega,by go_num,by rw[Pl.gR _ _ _ av,HA.out,HT.out];rfl⟩
    case measure=>simp[intOf];omega
   ·have hb:(decide ((33:Int)≤(v[k].toNat:Int))&&decide ((v[k].toNat:Int)≤126))=false:=by
     rw[Bool.eq_false_iff];simp;omega
    have HF:Hid (Pl.fits 3 least most ss v=false):=by
     show Pl.fits 3 least most ss v=false;have:Pl.eC v=false:=Pl.all_false _ v k av (by rw[Bool.eq_false_iff];simp[Pl.fl];omega);simp[Pl.fits,this]
    clear hd;go_wp2_with (go_at_call 25;refine(bc _ _ _ _).mono ?_;rintro e w' ⟨rfl,rfl⟩)
    go_ret;exact⟨Pl.ae HF.out.symm,br.alloc nr _⟩
  ·have HT:Hid (Pl.eC v=true):=by
    show Pl.eC v=true;unfold Pl.eC;rw[← Pl.jy Pl.fl v k (by omega)];exact HA.out
   by_cases h1:1≤v.size
   ·have HF:Hid (Pl.fits 3 least most ss v=(decide (least≤(v.size:Int))&&decide ((v.size:Int)≤most))):=by
     show Pl.fits 3 least most ss v=_;simp[Pl.fits,HT.out,h1]
    have he:=Pl.fK v h1;go_wp2_with (go_at_call 25;refine(bc _ _ _ _).mono ?_;rintro e w' ⟨rfl,rfl⟩)
    go_ret;exact⟨Pl.ae HF.out.symm,br.alloc nr _⟩
   ·have HF:Hid (Pl.fits 3 least most ss v=false):=by show _=_;simp[Pl.fits,h1]
    have he:=Pl.gF v h1;go_wp2;go_ret;exact⟨Pl.ae HF.out.symm,br.alloc nr _⟩
theorem vh (nm:ByteArray) (least most:Int) (vs:Value) (to:ByteArray) (role:Int) (must fixed:Bool) (de we v:ByteArray) (ss:List ByteArray) (w:World) (hv:v.size≤maxLen):
  Calls Tryz.prog 120 #[.agg #[.string nm,.int .i64 4,.int .i64 least,.int .i64 most,vs,.string to,.int .i64 role,.bool must,.bool fixed,.string de,.string we],.string v] w
   fun e w'=>e=.returned (.bool (Pl.fits 4 least most ss v))∧Bel w w':=by
 have HF:Hid (Pl.fits 4 least most ss v=Pl.aq v):=by show _=_;simp[Pl.fits]
 go_enter Tryz.func120,Tryz.ntmps120
 go_wp2_with (go_at_call 68;refine(aG _ _ hv).mono ?_;rintro e w' ⟨rfl,rfl⟩)
 go_ret;exact⟨Pl.ae HF.out.symm,br.alloc nr _⟩
theorem uc (nm:ByteArray) (kind least most:Int) (vs:Value) (to:ByteArray) (role:Int) (must fixed:Bool) (de we v:ByteArray) (ss:List ByteArray) (w:World)
  (h1:(kind==1)=false) (h2:(kind==2)=false) (h3:(kind==3)=false) (h4:(kind==4)=false):
  Calls Tryz.prog 120 #[.agg #[.string nm,.int .i64 kind,.int .i64 least,.int .i64 most,vs,.string to,.int .i64 role,.bool must,.bool fixed,.string de,.string we],.string v] w
   fun e w'=>e=.returned (.bool (Pl.fits kind least most ss v))∧Bel w w':=by
 have HF:Hid (Pl.fits kind least most ss v=false):=by
  show Pl.fits kind least most ss v=_;simp only[beq_eq_false_iff_ne,ne_eq]at h1 h2 h3 h4;simp[Pl.fits,h1,h2,h3,h4]
 go_enter Tryz.func120,Tryz.ntmps120
 go_wp2;go_ret;exact⟨Pl.ae HF.out.symm,br.alloc nr _⟩
theorem eQ (nm:ByteArray) (kind least most:Int) (b off cap:Nat) (to:ByteArray) (role:Int) (must fixed:Bool) (de we v:ByteArray) (ss:List ByteArray) (w:World)
  (hv:v.size≤maxLen) (hb:b<w.heap.size) (hl:ss.length≤maxLen) (hc:∀ i,i<ss.length→w.cell? ⟨b,off+i,none⟩=some (.string (ss.getD i ByteArray.empty))):
  Calls Tryz.prog 120 #[.agg #[.string nm,.int .i64 kind,.int .i64 least,.int .i64 most,.slice (some ⟨b,off,none⟩) ss.length cap,.string to,.int .i64 role,.bool must,.bool fixed,.string de,.string we],.string v] w
   fun e w'=>e=.returned (.bool (Pl.fits kind least most ss v))∧Bel w w':=by
 by_cases h1:kind=1
 ·subst h1;exact uO nm least most _ to role must fixed de we v ss w hv
 by_cases h2:kind=2
 ·subst h2;exact uZ nm least most b off cap to role must fixed de we v ss w hb hl hc
 by_cases h3:kind=3
 ·subst h3;exact uG nm least most _ to role must fixed de we v ss w hv
 by_cases h4:kind=4
 ·subst h4;exact vh nm least most _ to role must fixed de we v ss w hv
 exact uc nm kind least most _ to role must fixed de we v ss w (by simp[h1]) (by simp[h2]) (by simp[h3]) (by simp[h4])
end Go.Proofs.YtbiokpmdghmgcaaGreat
namespace Go.Proofs.YtbiokpmdghmgcaaGreat
set_option maxHeartbeats 40000000
open Go.RowKit Go.Deep
theorem tS (f:Fld) (b:Nat) (v:Value) (ss:List Shp) (w:World) (h1:(f.kind==1)=false) (h2:(f.kind==2)=false) (h3:(f.kind==3)=false) (h4:(f.kind==4)=false):
  Calls Tryz.prog 196 #[v,.agg #[.string f.nm,.int .i64 f.kind,.int .i64 f.least,.int .i64 f.most,.slice (some ⟨b,0,none⟩) f.words.length f.words.length,.string f.to,.int .i64 f.role,.bool f.must,.bool f.fixed,.string f.de,.string f.we]] w fun e w'=>e=.returned (.bool (aD ss f))∧Bel w w':=by
 have HF:Hid (aD ss f=false):=by
  show aD ss f=_;simp only[beq_eq_false_iff_ne,ne_eq]at h1 h2 h3 h4;have:isKind f.kind=false:=by rw[Bool.eq_false_iff];simp[isKind];omega
  simp[aD,this]
 have HX:Hid (∀ W,Calls Tryz.prog 197 #[.agg #[.string f.nm,.int .i64 f.kind,.int .i64 f.least,.int .i64 f.most,.slice (some ⟨b,0,none⟩) f.words.length f.words.length,.string f.to,.int .i64 f.role,.bool f.must,.bool f.fixed,.string f.de,.string f.we]] W fun e w'=>e=.returned (.tuple #[.nilIface,.bool false])∧Bel W w'):=fun W=>sf f.nm f.kind f.least f.most _ f.to f.role f.must f.fixed f.de f.we W h1 h2 h3 h4;clear h1 h2 h3 h4;go_enter Tryz.func196,Tryz.ntmps196
 go_wp2_with fail
 refine(HX.out _).mono ?_;rintro e w1 ⟨rfl,bl⟩;have vt:=aa (ab br _) bl;clear bl;go_wp2;go_ret;exact⟨Pl.ae HF.out.symm,vt⟩
theorem Aw (f:Fld) (b B:Nat) (ss:List Shp) (w:World) (h:bh w B ss) (hp:eE w b f):
  Calls Tryz.prog 196 #[.slice (some ⟨B,0,none⟩) ss.length ss.length,.agg #[.string f.nm,.int .i64 f.kind,.int .i64 f.least,.int .i64 f.most,.slice (some ⟨b,0,none⟩) f.words.length f.words.length,.string f.to,.int .i64 f.role,.bool f.must,.bool f.fixed,.string f.de,.string f.we]] w fun e w'=>e=.returned (.bool (aD ss f))∧Bel w w':=by
 by_cases h1:f.kind=1
 ·have:=uv f b B ss w h1 h hp;rw[← h1]at this;exact this
 by_cases h2:f.kind=2
 ·have:=tM f b B ss w h2 h hp;rw[← h2]at this;exact this
 by_cases h3:f.kind=3
 ·have:=uR f b B ss w h3 h hp;rw[← h3]at this;exact this
 by_cases h4:f.kind=4
 ·have:=uu7 f b B ss w h4 h hp;rw[← h4]at this;exact this
 exact tS f b _ ss w (by simp[h1]) (by simp[h2]) (by simp[h3]) (by simp[h4])
theorem vf (f:Fld) (b B:Nat) (ss:List Shp) (w:World) (hk:f.kind=1) (h:bh w B ss) (hp:eE w b f):
  Calls Tryz.prog 161 #[.slice (some ⟨B,0,none⟩) ss.length ss.length,.agg #[.string f.nm,.int .i64 1,.int .i64 f.least,.int .i64 f.most,.slice (some ⟨b,0,none⟩) f.words.length f.words.length,.string f.to,.int .i64 f.role,.bool f.must,.bool f.fixed,.string f.de,.string f.we]] w fun e w'=>e=.returned (.bool (Pl.aq f.nm&&aD ss f))∧Bel w w':=by
 have HP:=hid hp;have HL:=hid h;have HO:Hid (aD ss f=(ca f&&aL ss f&&gi f)):=by show _=_;simp[aD,isKind,hk]
 have lL:Hid (aL ss f=(decide (0≤f.least)&&decide (f.least≤f.most)&&decide (f.most≤1000000)&&(f.we.toList.isEmpty||Pl.aq f.we))):=by show _=_;simp[aL,hk,Pl.aE]
 have cz:=hid fun (W:World)=>Av f b W HP.out.small hk;have iN:Hid (∀ W,Bel w W→Calls Tryz.prog 120 #[.agg #[.string f.nm,.int .i64 1,.int .i64 f.least,.int .i64 f.most,.slice (some ⟨b,0,none⟩) f.words.length f.words.length,.string f.to,.int .i64 f.role,.bool f.must,.bool f.fixed,.string f.de,.string f.we],.string f.de] W fun e w'=>e=.returned (.bool (dC f f.de))∧Bel W w'):=by
  intro W hW;have Q:=HP.out.later hW;have e:dC f f.de=Pl.fits 1 f.least f.most f.words f.de:=by rw[dC,hk]
  rw[e];exact eQ f.nm 1 f.least f.most b 0 f.words.length f.to f.role f.must f.fixed f.de f.we f.de f.words W Q.sized.2.2.1 Q.lt (by have:f.words.length≤1048576:=Q.small;unfold maxLen;omega) Q.cells
 clear hp h hk;cases hnm:Pl.aq f.nm
 ·have HN:=hid HP.out.sized.1;go_enter Tryz.func161,Tryz.ntmps161
  go_wp2_with (go_at_call 68;refine(aG _ _ HN.out).mono ?_;rintro e w' ⟨rfl,rfl⟩)
  go_ret;exact⟨rfl,ab br _⟩
 have HN:=hid HP.out.sized.1;obtain⟨R,hR⟩:∃ R,R=(true&&aD ss f):=⟨_,rfl⟩
 rw[← hR];have HR:Hid (R=aD ss f):=by rw[hR];rfl
 clear hR;go_enter Tryz.func161,Tryz.ntmps161
 go_wp2_with (go_at_call 68;refine(aG _ _ HN.out).mono ?_;rintro e w' ⟨rfl,rfl⟩)
 refine(cz.out _).mono ?_;rintro e w2 ⟨rfl,aA⟩;have bE:=aa (ab (Below.refl w.heap.size w) (.cells #[.string f.nm,.int .i64 1,.int .i64 f.least,.int .i64 f.most,.slice (some ⟨b,0,none⟩) f.words.length f.words.length,.string f.to,.int .i64 f.role,.bool f.must,.bool f.fixed,.string f.de,.string f.we] 122)) aA;have k2:∀ o,w2.cell? ⟨w.heap.size,o,none⟩=(w.alloc (.cells #[.string f.nm,.int .i64 1,.int .i64 f.least,.int .i64 f.most,.slice (some ⟨b,0,none⟩) f.words.length f.words.length,.string f.to,.int .i64 f.role,.bool f.must,.bool f.fixed,.string f.de,.string f.we] 122)).cell? ⟨w.heap.size,o,none⟩:=fun o=>aA.cell (p:=⟨w.heap.size,o,none⟩) (by simp);have z2:w.heap.size<w2.heap.size:=by have:=aA.size;simp at this;omega
 clear aA cz HN;cases hba:ca f
 ·have HF:Hid (R=false):=by show _=_;rw[HR.out,HO.out,hba];rfl
  go_wp2;go_ret;exact⟨Pl.ae HF.out.symm,bE⟩
 cases hem:f.de.toList.isEmpty
 ·cases dP:dC f f.de
  ·have HF:Hid (R=false):=by show _=_;rw[HR.out,HO.out];simp[gi,Pl.aE,hem,dP]
   go_wp2_with fail
   refine(iN.out _ bE).mono ?_;rintro e w3 ⟨rfl,aO⟩;have eX:=aa bE aO;go_wp2;go_ret;exact⟨Pl.ae HF.out.symm,eX⟩
  go_wp2_with fail
  refine(iN.out _ bE).mono ?_;rintro e w3 ⟨rfl,aO⟩;have eX:=aa bE aO;have k3:∀ o,w3.cell? ⟨w.heap.size,o,none⟩=(w.alloc (.cells #[.string f.nm,.int .i64 1,.int .i64 f.least,.int .i64 f.most,.slice (some ⟨b,0,none⟩) f.words.length f.words.length,.string f.to,.int .i64 f.role,.bool f.must,.bool f.fixed,.string f.de,.string f.we] 122)).cell? ⟨w.heap.size,o,none⟩:=fun o=>(aO.cell (p:=⟨w.heap.size,o,none⟩) z2).trans (k2 o);have HF:Hid (R=aL ss f):=by show _=_;rw[HR.out,HO.out,hba];simp[gi,Pl.aE,hem,dP]
  clear aO k2 bE z2 iN HO HR;have HQ:=hid lL.out;have HS:=hid HP.out.sized.2.2.2;clear HP HL lL;go_wp2_with (go_at_call 68;refine(aG _ _ HS.out).mono ?_;rintro e w' ⟨rfl,rfl⟩)
  all_goals go_ret
  all_goals refine⟨Pl.ae ?_,eX⟩
  all_goals rw[HF.out,HQ.out]
  all_goals clear HF HQ eX k3
  all_goals go_light
  all_goals first|(simp_all;done)|(simp_all;omega)|(rw[Bool.eq_iff_iff];simp_all;done)|(rw[Bool.eq_iff_iff];simp_all;omega)
 obtain⟨w3,rfl⟩:∃ w3,w3=w2:=⟨_,rfl⟩
 have eX:=bE;have k3:=k2;have HF:Hid (R=aL ss f):=by show _=_;rw[HR.out,HO.out,hba];simp[gi,Pl.aE,hem]
 clear k2 bE z2 iN HO HR;have HQ:=hid lL.out;have HS:=hid HP.out.sized.2.2.2;clear HP HL lL;go_wp2_with (go_at_call 68;refine(aG _ _ HS.out).mono ?_;rintro e w' ⟨rfl,rfl⟩)
 all_goals go_ret
 all_goals refine⟨Pl.ae ?_,eX⟩
 all_goals rw[HF.out,HQ.out]
 all_goals clear HF HQ eX k3
 all_goals go_light
 all_goals first|(simp_all;done)|(simp_all;omega)|(rw[Bool.eq_iff_iff];simp_all;done)|(rw[Bool.eq_iff_iff];simp_all;omega)
theorem uQ (f:Fld) (b B:Nat) (ss:List Shp) (w:World) (hk:f.kind=2) (h:bh w B ss) (hp:eE w b f):
  Calls Tryz.prog 161 #[.slice (some ⟨B,0,none⟩) ss.length ss.length,.agg #[.string f.nm,.int .i64 2,.int .i64 f.least,.int .i64 f.most,.slice (some ⟨b,0,none⟩) f.words.length f.words.length,.string f.to,.int .i64 f.role,.bool f.must,.bool f.fixed,.string f.de,.string f.we]] w fun e w'=>e=.returned (.bool (Pl.aq f.nm&&aD ss f))∧Bel w w':=by
 have HP:=hid hp;have HL:=hid h;have HO:Hid (aD ss f=(ca f&&aL ss f&&gi f)):=by show _=_;simp[aD,isKind,hk]
 have lL:Hid (aL ss f=(decide (1≤f.words.length)&&decide (f.words.length≤6)&&Pl.asc f.words)):=by show _=_;simp[aL,hk]
 have cz:=hid fun (W:World)=>zo f b W HP.out.small hk;have iN:Hid (∀ W,Bel w W→Calls Tryz.prog 120 #[.agg #[.string f.nm,.int .i64 2,.int .i64 f.least,.int .i64 f.most,.slice (some ⟨b,0,none⟩) f.words.length f.words.length,.string f.to,.int .i64 f.role,.bool f.must,.bool f.fixed,.string f.de,.string f.we],.string f.de] W fun e w'=>e=.returned (.bool (dC f f.de))∧Bel W w'):=by
  intro W hW;have Q:=HP.out.later hW;have e:dC f f.de=Pl.fits 2 f.least f.most f.words f.de:=by rw[dC,hk]
  rw[e];exact eQ f.nm 2 f.least f.most b 0 f.words.length f.to f.role f.must f.fixed f.de f.we f.de f.words W Q.sized.2.2.1 Q.lt (by have:f.words.length≤1048576:=Q.small;unfold maxLen;omega) Q.cells
 clear hp h hk;cases hnm:Pl.aq f.nm
 ·have HN:=hid HP.out.sized.1;go_enter Tryz.func161,Tryz.ntmps161
  go_wp2_with (go_at_call 68;refine(aG _ _ HN.out).mono ?_;rintro e w' ⟨rfl,rfl⟩)
  go_ret;exact⟨rfl,ab br _⟩
 have HN:=hid HP.out.sized.1;obtain⟨R,hR⟩:∃ R,R=(true&&aD ss f):=⟨_,rfl⟩
 rw[← hR];have HR:Hid (R=aD ss f):=by rw[hR];rfl
 clear hR;go_enter Tryz.func161,Tryz.ntmps161
 go_wp2_with (go_at_call 68;refine(aG _ _ HN.out).mono ?_;rintro e w' ⟨rfl,rfl⟩)
 refine(cz.out _).mono ?_;rintro e w2 ⟨rfl,aA⟩;have bE:=aa (ab (Below.refl w.heap.size w) (.cells #[.string f.nm,.int .i64 2,.int .i64 f.least,.int .i64 f.most,.slice (some ⟨b,0,none⟩) f.words.length f.words.length,.string f.to,.int .i64 f.role,.bool f.must,.bool f.fixed,.string f.de,.string f.we] 122)) aA;have k2:∀ o,w2.cell? ⟨w.heap.size,o,none⟩=(w.alloc (.cells #[.string f.nm,.int .i64 2,.int .i64 f.least,.int .i64 f.most,.slice (some ⟨b,0,none⟩) f.words.length f.words.length,.string f.to,.int .i64 f.role,.bool f.must,.bool f.fixed,.string f.de,.string f.we] 122)).cell? ⟨w.heap.size,o,none⟩:=fun o=>aA.cell (p:=⟨w.heap.size,o,none⟩) (by simp);have z2:w.heap.size<w2.heap.size:=by have:=aA.size;simp at this;omega
 clear aA cz HN;cases hba:ca f
 ·have HF:Hid (R=false):=by show _=_;rw[HR.out,HO.out,hba];rfl
  go_wp2;go_ret;exact⟨Pl.ae HF.out.symm,bE⟩
 cases hem:f.de.toList.isEmpty
 ·cases dP:dC f f.de
  ·have HF:Hid (R=false):=by show _=_;rw[HR.out,HO.out];simp[gi,Pl.aE,hem,dP]
   go_wp2_with fail
   refine(iN.out _ bE).mono ?_;rintro e w3 ⟨rfl,aO⟩;have eX:=aa bE aO;go_wp2;go_ret;exact⟨Pl.ae HF.out.symm,eX⟩
  go_wp2_with fail
  refine(iN.out _ bE).mono ?_;rintro e w3 ⟨rfl,aO⟩;have eX:=aa bE aO;have k3:∀ o,w3.cell? ⟨w.heap.size,o,none⟩=(w.alloc (.cells #[.string f.nm,.int .i64 2,.int .i64 f.least,.int .i64 f.most,.slice (some ⟨b,0,none⟩) f.words.length f.words.length,.string f.to,.int .i64 f.role,.bool f.must,.bool f.fixed,.string f.de,.string f.we] 122)).cell? ⟨w.heap.size,o,none⟩:=fun o=>(aO.cell (p:=⟨w.heap.size,o,none⟩) z2).trans (k2 o);have HF:Hid (R=aL ss f):=by show _=_;rw[HR.out,HO.out,hba];simp[gi,Pl.aE,hem,dP]
  clear aO k2 bE z2 iN HO HR;have HQ:Hid (aL ss f=(decide ((1:Int)≤(f.words.length:Int))&&decide ((f.words.length:Int)≤6)&&Pl.asc f.words)):=by
   show aL ss f=_;rw[lL.out,Bool.eq_iff_iff];simp;omega
  have HX:Hid (Calls Tryz.prog 119 #[.slice (some ⟨b,0,none⟩) f.words.length f.words.length] w3 fun e w'=>e=.returned (.bool (Pl.asc f.words))∧Bel w3 w'):=by
   have Q:=HP.out.later eX;exact mK b _ f.words w3 Q.small Q.lt Q.sizes Q.cells
  have yY:=HP.out.small;clear HP HL lL;cases bA:(decide ((1:Int)≤(f.words.length:Int))&&decide ((f.words.length:Int)≤6))
  ·have HG:Hid (aL ss f=false):=by show _=_;rw[HQ.out,bA];rfl
   go_wp2_with (go_at_call 25;refine(bc _ _ _ _).mono ?_;rintro e w' ⟨rfl,rfl⟩)
   go_ret;exact⟨Pl.ae (by rw[HF.out,HG.out]),eX⟩
  ·have HG:Hid (aL ss f=Pl.asc f.words):=by show _=_;rw[HQ.out,bA];rfl
   go_wp2_with (first|(go_at_call 25;refine(bc _ _ _ _).mono ?_;rintro e w' ⟨rfl,rfl⟩)|(go_at_call 119;refine HX.out.mono ?_;rintro e w4 ⟨rfl,cA⟩))
   go_ret;exact⟨Pl.ae (by rw[HF.out,HG.out]),aa eX cA⟩
 obtain⟨w3,rfl⟩:∃ w3,w3=w2:=⟨_,rfl⟩
 have eX:=bE;have k3:=k2;have HF:Hid (R=aL ss f):=by show _=_;rw[HR.out,HO.out,hba];simp[gi,Pl.aE,hem]
 clear k2 bE z2 iN HO HR;have HQ:Hid (aL ss f=(decide ((1:Int)≤(f.words.length:Int))&&decide ((f.words.length:Int)≤6)&&Pl.asc f.words)):=by
  show aL ss f=_;rw[lL.out,Bool.eq_iff_iff];simp;omega
 have HX:Hid (Calls Tryz.prog 119 #[.slice (some ⟨b,0,none⟩) f.words.length f.words.length] w3 fun e w'=>e=.returned (.bool (Pl.asc f.words))∧Bel w3 w'):=by
  have Q:=HP.out.later eX;exact mK b _ f.words w3 Q.small Q.lt Q.sizes Q.cells
 have yY:=HP.out.small;clear HP HL lL;cases bA:(decide ((1:Int)≤(f.words.length:Int))&&decide ((f.words.length:Int)≤6))
 ·have HG:Hid (aL ss f=false):=by show _=_;rw[HQ.out,bA];rfl
  go_wp2_with (go_at_call 25;refine(bc _ _ _ _).mono ?_;rintro e w' ⟨rfl,rfl⟩)
  go_ret;exact⟨Pl.ae (by rw[HF.out,HG.out]),eX⟩
 ·have HG:Hid (aL ss f=Pl.asc f.words):=by show _=_;rw[HQ.out,bA];rfl
  go_wp2_with (first|(go_at_call 25;refine(bc _ _ _ _).mono ?_;rintro e w' ⟨rfl,rfl⟩)|(go_at_call 119;refine HX.out.mono ?_;rintro e w4 ⟨rfl,cA⟩))
  go_ret;exact⟨Pl.ae (by rw[HF.out,HG.out]),aa eX cA⟩
theorem ue (f:Fld) (b B:Nat) (ss:List Shp) (w:World) (hk:f.kind=3) (h:bh w B ss) (hp:eE w b f):
  Calls Tryz.prog 161 #[.slice (some ⟨B,0,none⟩) ss.length ss.length,.agg #[.string f.nm,.int .i64 3,.int .i64 f.least,.int .i64 f.most,.slice (some ⟨b,0,none⟩) f.words.length f.words.length,.string f.to,.int .i64 f.role,.bool f.must,.bool f.fixed,.string f.de,.string f.we]] w fun e w'=>e=.returned (.bool (Pl.aq f.nm&&aD ss f))∧Bel w w':=by
 have HP:=hid hp;have HL:=hid h;have HO:Hid (aD ss f=(ca f&&aL ss f&&gi f)):=by show _=_;simp[aD,isKind,hk]
 have lL:Hid (aL ss f=(decide (1≤f.least)&&decide (f.least≤f.most)&&decide (f.most≤40))):=by show _=_;simp[aL,hk]
 have cz:=hid fun (W:World)=>zG f b W HP.out.small hk;have iN:Hid (∀ W,Bel w W→Calls Tryz.prog 120 #[.agg #[.string f.nm,.int .i64 3,.int .i64 f.least,.int .i64 f.most,.slice (some ⟨b,0,none⟩) f.words.length f.words.length,.string f.to,.int .i64 f.role,.bool f.must,.bool f.fixed,.string f.de,.string f.we],.string f.de] W fun e w'=>e=.returned (.bool (dC f f.de))∧Bel W w'):=by
  intro W hW;have Q:=HP.out.later hW;have e:dC f f.de=Pl.fits 3 f.least f.most f.words f.de:=by rw[dC,hk]
  rw[e];exact eQ f.nm 3 f.least f.most b 0 f.words.length f.to f.role f.must f.fixed f.de f.we f.de f.words W Q.sized.2.2.1 Q.lt (by have:f.words.length≤1048576:=Q.small;unfold maxLen;omega) Q.cells
 clear hp h hk;cases hnm:Pl.aq f.nm
 ·have HN:=hid HP.out.sized.1;go_enter Tryz.func161,Tryz.ntmps161
  go_wp2_with (go_at_call 68;refine(aG _ _ HN.out).mono ?_;rintro e w' ⟨rfl,rfl⟩)
  go_ret;exact⟨rfl,ab br _⟩
 have HN:=hid HP.out.sized.1;obtain⟨R,hR⟩:∃ R,R=(true&&aD ss f):=⟨_,rfl⟩
 rw[← hR];have HR:Hid (R=aD ss f):=by rw[hR];rfl
 clear hR;go_enter Tryz.func161,Tryz.ntmps161
 go_wp2_with (go_at_call 68;refine(aG _ _ HN.out).mono ?_;rintro e w' ⟨rfl,rfl⟩)
 refine(cz.out _).mono ?_;rintro e w2 ⟨rfl,aA⟩;have bE:=aa (ab (Below.refl w.heap.size w) (.cells #[.string f.nm,.int .i64 3,.int .i64 f.least,.int .i64 f.most,.slice (some ⟨b,0,none⟩) f.words.length f.words.length,.string f.to,.int .i64 f.role,.bool f.must,.bool f.fixed,.string f.de,.string f.we] 122)) aA;have k2:∀ o,w2.cell? ⟨w.heap.size,o,none⟩=(w.alloc (.cells #[.string f.nm,.int .i64 3,.int .i64 f.least,.int .i64 f.most,.slice (some ⟨b,0,none⟩) f.words.length f.words.length,.string f.to,.int .i64 f.role,.bool f.must,.bool f.fixed,.string f.de,.string f.we] 122)).cell? ⟨w.heap.size,o,none⟩:=fun o=>aA.cell (p:=⟨w.heap.size,o,none⟩) (by simp);have z2:w.heap.size<w2.heap.size:=by have:=aA.size;simp at this;omega
 clear aA cz HN;cases hba:ca f
 ·have HF:Hid (R=false):=by show _=_;rw[HR.out,HO.out,hba];rfl
  go_wp2;go_ret;exact⟨Pl.ae HF.out.symm,bE⟩
 cases hem:f.de.toList.isEmpty
 ·cases dP:dC f f.de
  ·have HF:Hid (R=false):=by show _=_;rw[HR.out,HO.out];simp[gi,Pl.aE,hem,dP]
   go_wp2_with fail
   refine(iN.out _ bE).mono ?_;rintro e w3 ⟨rfl,aO⟩;have eX:=aa bE aO;go_wp2;go_ret;exact⟨Pl.ae HF.out.symm,eX⟩
  go_wp2_with fail
  refine(iN.out _ bE).mono ?_;rintro e w3 ⟨rfl,aO⟩;have eX:=aa bE aO;have k3:∀ o,w3.cell? ⟨w.heap.size,o,none⟩=(w.alloc (.cells #[.string f.nm,.int .i64 3,.int .i64 f.least,.int .i64 f.most,.slice (some ⟨b,0,none⟩) f.words.length f.words.length,.string f.to,.int .i64 f.role,.bool f.must,.bool f.fixed,.string f.de,.string f.we] 122)).cell? ⟨w.heap.size,o,none⟩:=fun o=>(aO.cell (p:=⟨w.heap.size,o,none⟩) z2).trans (k2 o);have HF:Hid (R=aL ss f):=by show _=_;rw[HR.out,HO.out,hba];simp[gi,Pl.aE,hem,dP]
  clear aO k2 bE z2 iN HO HR;have HQ:=hid lL.out;clear HP HL lL;go_wp2
  all_goals go_ret
  all_goals refine⟨Pl.ae ?_,eX⟩
  all_goals rw[HF.out,HQ.out]
  all_goals clear HF HQ eX k3
  all_goals go_light
  all_goals first|(simp_all;done)|(simp_all;omega)|(rw[Bool.eq_iff_iff];simp_all;done)|(rw[Bool.eq_iff_iff];simp_all;omega)
 obtain⟨w3,rfl⟩:∃ w3,w3=w2:=⟨_,rfl⟩
 have eX:=bE;have k3:=k2;have HF:Hid (R=aL ss f):=by show _=_;rw[HR.out,HO.out,hba];simp[gi,Pl.aE,hem]
 clear k2 bE z2 iN HO HR;have HQ:=hid lL.out;clear HP HL lL;go_wp2
 all_goals go_ret
 all_goals refine⟨Pl.ae ?_,eX⟩
 all_goals rw[HF.out,HQ.out]
 all_goals clear HF HQ eX k3
 all_goals go_light
 all_goals first|(simp_all;done)|(simp_all;omega)|(rw[Bool.eq_iff_iff];simp_all;done)|(rw[Bool.eq_iff_iff];simp_all;omega)
theorem uk (f:Fld) (b B:Nat) (ss:List Shp) (w:World) (hk:f.kind=4) (h:bh w B ss) (hp:eE w b f):
  Calls Tryz.prog 161 #[.slice (some ⟨B,0,none⟩) ss.length ss.length,.agg #[.string f.nm,.int .i64 4,.int .i64 f.least,.int .i64 f.most,.slice (some ⟨b,0,none⟩) f.words.length f.words.length,.string f.to,.int .i64 f.role,.bool f.must,.bool f.fixed,.string f.de,.string f.we]] w fun e w'=>e=.returned (.bool (Pl.aq f.nm&&aD ss f))∧Bel w w':=by
 have HP:=hid hp;have HL:=hid h;have HO:Hid (aD ss f=(ca f&&aL ss f&&gi f)):=by show _=_;simp[aD,isKind,hk]
 have lL:Hid (aL ss f=(aK ss f.to&&(decide (1≤f.role)&&decide (f.role≤3)&&f.de.toList.isEmpty&&(!decide (f.role=2)|| !f.must)))):=by show _=_;simp[aL,hk,Pl.aE,Bool.and_assoc]
 have cz:=hid fun (W:World)=>A8 f b W HP.out.small hk;have iN:Hid (∀ W,Bel w W→Calls Tryz.prog 120 #[.agg #[.string f.nm,.int .i64 4,.int .i64 f.least,.int .i64 f.most,.slice (some ⟨b,0,none⟩) f.words.length f.words.length,.string f.to,.int .i64 f.role,.bool f.must,.bool f.fixed,.string f.de,.string f.we],.string f.de] W fun e w'=>e=.returned (.bool (dC f f.de))∧Bel W w'):=by
  intro W hW;have Q:=HP.out.later hW;have e:dC f f.de=Pl.fits 4 f.least f.most f.words f.de:=by rw[dC,hk]
  rw[e];exact eQ f.nm 4 f.least f.most b 0 f.words.length f.to f.role f.must f.fixed f.de f.we f.de f.words W Q.sized.2.2.1 Q.lt (by have:f.words.length≤1048576:=Q.small;unfold maxLen;omega) Q.cells
 clear hp h hk;cases hnm:Pl.aq f.nm
 ·have HN:=hid HP.out.sized.1;go_enter Tryz.func161,Tryz.ntmps161
  go_wp2_with (go_at_call 68;refine(aG _ _ HN.out).mono ?_;rintro e w' ⟨rfl,rfl⟩)
  go_ret;exact⟨rfl,ab br _⟩
 have HN:=hid HP.out.sized.1;obtain⟨R,hR⟩:∃ R,R=(true&&aD ss f):=⟨_,rfl⟩
 rw[← hR];have HR:Hid (R=aD ss f):=by rw[hR];rfl
 clear hR;go_enter Tryz.func161,Tryz.ntmps161
 go_wp2_with (go_at_call 68;refine(aG _ _ HN.out).mono ?_;rintro e w' ⟨rfl,rfl⟩)
 refine(cz.out _).mono ?_;rintro e w2 ⟨rfl,aA⟩;have bE:=aa (ab (Below.refl w.heap.size w) (.cells #[.string f.nm,.int .i64 4,.int .i64 f.least,.int .i64 f.most,.slice (some ⟨b,0,none⟩) f.words.length f.words.length,.string f.to,.int .i64 f.role,.bool f.must,.bool f.fixed,.string f.de,.string f.we] 122)) aA;have k2:∀ o,w2.cell? ⟨w.heap.size,o,none⟩=(w.alloc (.cells #[.string f.nm,.int .i64 4,.int .i64 f.least,.int .i64 f.most,.slice (some ⟨b,0,none⟩) f.words.length f.words.length,.string f.to,.int .i64 f.role,.bool f.must,.bool f.fixed,.string f.de,.string f.we] 122)).cell? ⟨w.heap.size,o,none⟩:=fun o=>aA.cell (p:=⟨w.heap.size,o,none⟩) (by simp);have z2:w.heap.size<w2.heap.size:=by have:=aA.size;simp at this;omega
 clear aA cz HN;cases hba:ca f
 ·have HF:Hid (R=false):=by show _=_;rw[HR.out,HO.out,hba];rfl
  go_wp2;go_ret;exact⟨Pl.ae HF.out.symm,bE⟩
 cases hem:f.de.toList.isEmpty
 ·cases dP:dC f f.de
  ·have HF:Hid (R=false):=by show _=_;rw[HR.out,HO.out];simp[gi,Pl.aE,hem,dP]
   go_wp2_with fail
   refine(iN.out _ bE).mono ?_;rintro e w3 ⟨rfl,aO⟩;have eX:=aa bE aO;go_wp2;go_ret;exact⟨Pl.ae HF.out.symm,eX⟩
  go_wp2_with fail
  refine(iN.out _ bE).mono ?_;rintro e w3 ⟨rfl,aO⟩;have eX:=aa bE aO;have k3:∀ o,w3.cell? ⟨w.heap.size,o,none⟩=(w.alloc (.cells #[.string f.nm,.int .i64 4,.int .i64 f.least,.int .i64 f.most,.slice (some ⟨b,0,none⟩) f.words.length f.words.length,.string f.to,.int .i64 f.role,.bool f.must,.bool f.fixed,.string f.de,.string f.we] 122)).cell? ⟨w.heap.size,o,none⟩:=fun o=>(aO.cell (p:=⟨w.heap.size,o,none⟩) z2).trans (k2 o);have HF:Hid (R=aL ss f):=by show _=_;rw[HR.out,HO.out,hba];simp[gi,Pl.aE,hem,dP]
  clear aO k2 bE z2 iN HO HR;have HQ:=hid lL.out;obtain⟨r,hr⟩:∃ r:Int,r=(if aB ss f.to<ss.length then (aB ss f.to:Int) else -1):=⟨_,rfl⟩
  have HX:Hid (Calls Tryz.prog 124 #[.slice (some ⟨B,0,none⟩) ss.length ss.length,.string f.to] w3 fun e w'=>e=.returned (.int .i64 r)∧w3=w'):=by
   rw[hr];exact fY B ss f.to w3 (HL.out.later eX)
  have hq:decide (0≤r)=aK ss f.to:=by rw[hr,aK];split<;>simp_all
  clear HP HL lL hr;cases hh:aK ss f.to
  ·rw[hh]at hq;have Ma:r<0:=by simpa using hq
   have HG:Hid (aL ss f=false):=by show _=_;rw[HQ.out,hh];rfl
   clear hq hh;go_wp2_with fail
   refine HX.out.mono ?_;rintro e w4 ⟨rfl,rfl⟩;go_wp2;go_ret;exact⟨Pl.ae (by rw[HF.out,HG.out]),eX⟩
  ·rw[hh]at hq;have Ma:0≤r:=by simpa using hq
   have HG:Hid (aL ss f=((decide (1≤f.role)&&decide (f.role≤3))&&f.de.toList.isEmpty&&(!decide (f.role=2)|| !f.must))):=by show _=_;rw[HQ.out,hh];rfl
   clear hq hh HQ;cases bA:(decide (1≤f.role)&&decide (f.role≤3))
   ·go_wp2_with (first|(go_at_call 124;refine HX.out.mono ?_;rintro e w4 ⟨rfl,rfl⟩)|(go_at_call 25;refine(bc _ _ _ _).mono ?_;rintro e w' ⟨rfl,rfl⟩))
    go_ret;exact⟨Pl.ae (by rw[HF.out,HG.out,bA];rfl),eX⟩
   ·have I2:Hid (aL ss f=(f.de.toList.isEmpty&&(!decide (f.role=2)|| !f.must))):=by show _=_;rw[HG.out,bA];rfl
    clear HG;go_wp2_with (first|(go_at_call 124;refine HX.out.mono ?_;rintro e w4 ⟨rfl,rfl⟩)|(go_at_call 25;refine(bc _ _ _ _).mono ?_;rintro e w' ⟨rfl,rfl⟩))
    all_goals go_ret
    all_goals refine⟨Pl.ae ?_,eX⟩
    all_goals rw[HF.out,I2.out]
    all_goals clear HF I2 eX k3 HX
    all_goals go_light
    all_goals first|(simp_all;done)|(simp_all;omega)|(rw[Bool.eq_iff_iff];simp_all;done)|(rw[Bool.eq_iff_iff];simp_all;omega)
 obtain⟨w3,rfl⟩:∃ w3,w3=w2:=⟨_,rfl⟩
 have eX:=bE;have k3:=k2;have HF:Hid (R=aL ss f):=by show _=_;rw[HR.out,HO.out,hba];simp[gi,Pl.aE,hem]
 clear k2 bE z2 iN HO HR;have HQ:=hid lL.out;obtain⟨r,hr⟩:∃ r:Int,r=(if aB ss f.to<ss.length then (aB ss f.to:Int) else -1):=⟨_,rfl⟩
 have HX:Hid (Calls Tryz.prog 124 #[.slice (some ⟨B,0,none⟩) ss.length ss.length,.string f.to] w3 fun e w'=>e=.returned (.int .i64 r)∧w3=w'):=by
  rw[hr];exact fY B ss f.to w3 (HL.out.later eX)
 have hq:decide (0≤r)=aK ss f.to:=by rw[hr,aK];split<;>simp_all
 clear HP HL lL hr;cases hh:aK ss f.to
 ·rw[hh]at hq;have Ma:r<0:=by simpa using hq
  have HG:Hid (aL ss f=false):=by show _=_;rw[HQ.out,hh];rfl
  clear hq hh;go_wp2_with fail
  refine HX.out.mono ?_;rintro e w4 ⟨rfl,rfl⟩;go_wp2;go_ret;exact⟨Pl.ae (by rw[HF.out,HG.out]),eX⟩
 ·rw[hh]at hq;have Ma:0≤r:=by simpa using hq
  have HG:Hid (aL ss f=((decide (1≤f.role)&&decide (f.role≤3))&&f.de.toList.isEmpty&&(!decide (f.role=2)|| !f.must))):=by show _=_;rw[HQ.out,hh];rfl
  clear hq hh HQ;cases bA:(decide (1≤f.role)&&decide (f.role≤3))
  ·go_wp2_with (first|(go_at_call 124;refine HX.out.mono ?_;rintro e w4 ⟨rfl,rfl⟩)|(go_at_call 25;refine(bc _ _ _ _).mono ?_;rintro e w' ⟨rfl,rfl⟩))
   go_ret;exact⟨Pl.ae (by rw[HF.out,HG.out,bA];rfl),eX⟩
  ·have I2:Hid (aL ss f=(f.de.toList.isEmpty&&(!decide (f.role=2)|| !f.must))):=by show _=_;rw[HG.out,bA];rfl
   clear HG;go_wp2_with (first|(go_at_call 124;refine HX.out.mono ?_;rintro e w4 ⟨rfl,rfl⟩)|(go_at_call 25;refine(bc _ _ _ _).mono ?_;rintro e w' ⟨rfl,rfl⟩))
   all_goals go_ret
   all_goals refine⟨Pl.ae ?_,eX⟩
   all_goals rw[HF.out,I2.out]
   all_goals clear HF I2 eX k3 HX
   all_goals go_light
   all_goals first|(simp_all;done)|(simp_all;omega)|(rw[Bool.eq_iff_iff];simp_all;done)|(rw[Bool.eq_iff_iff];simp_all;omega)
structure bW (w:World) (B:Nat) (fs:List Fld):Prop where
 lt:B<w.heap.size
 len:fs.length≤1048576
 small:∀ f∈fs,f.small
 at_:∀ i,i<fs.length→bx w B (i*11) (fs.getD i Fld.none)
theorem bW.later {w w':World} {B:Nat} {fs:List Fld} (h:bW w B fs) (hb:Bel w w'):bW w' B fs:=
 ⟨lo h.lt hb.size,h.len,h.small,fun i hi=>(h.at_ i hi).later hb h.lt⟩
theorem bW.arg {w:World} {B:Nat} {fs:List Fld} (h:bW w B fs) {i:Nat} (hi:i<fs.length) {f:Fld} (hf:f=fs.getD i Fld.none):
  ∃ b,eE w b f∧j5 w B (i*11) f (.slice (some ⟨b,0,none⟩) f.words.length f.words.length):=by
 obtain⟨b,_,hl,h2⟩:=h.at_ i hi;rw[← hf]at h2;exact⟨b,⟨hl,h.small f (by rw[hf];simp[hi]),h2.sized,h2.texts.sizes,kp h2.texts⟩,h2⟩
def nameAt (fs:List Fld) (k:ByteArray):Nat:=fs.findIdx (fun f=>f.nm.toList==k.toList)
theorem jP (fs:List Fld) (k:ByteArray) (i:Nat) (hi:i<fs.length) (iM:i≤nameAt fs k) (h:((fs.getD i Fld.none).nm.toList==k.toList)=true):nameAt fs k=i:=by
 have e:fs.getD i Fld.none=fs[i]:=by simp[hi]
 rw[e]at h;have:nameAt fs k≤i:=by
  unfold nameAt;exact Nat.le_of_not_lt fun av=>by
   have:=List.not_of_lt_findIdx av;simp[h]at this
 omega
theorem iQ (fs:List Fld) (k:ByteArray) (i:Nat) (hi:i<fs.length) (iM:i≤nameAt fs k) (h:((fs.getD i Fld.none).nm.toList==k.toList)=false):i+1≤nameAt fs k:=by
 have e:fs.getD i Fld.none=fs[i]:=by simp[hi]
 rw[e]at h;by_cases hq:nameAt fs k=i
 ·exfalso;have av:nameAt fs k<fs.length:=by omega
  have:=List.findIdx_getElem (w:=av);unfold nameAt at hq;simp only[hq]at this;rw[this]at h;cases h
 ·omega
theorem qs (fs:List Fld) (i:Nat) (hi:i<fs.length):nameAt fs (fs.getD i Fld.none).nm≤i:=by
 unfold nameAt;exact Nat.le_of_not_lt fun av=>by
  have:=List.not_of_lt_findIdx av;simp[hi]at this
theorem any_eq (fs:List Fld) (k:ByteArray) (i:Nat) (hi:i≤fs.length):((List.range i).any fun j=>(fs.getD j Fld.none).nm.toList==k.toList)=decide (nameAt fs k<i):=by
 rw[Bool.eq_iff_iff,decide_eq_true_eq,List.any_eq_true];constructor
 ·rintro⟨j,hj,h⟩;rw[List.mem_range]at hj;have lJ:j<fs.length:=by omega
  have e:fs.getD j Fld.none=fs[j]:=by simp[lJ]
  rw[e]at h;unfold nameAt;refine Nat.lt_of_le_of_lt (Nat.le_of_not_lt fun av=> ?_) hj;have:=List.not_of_lt_findIdx av;rw[h]at this;cases this
 ·intro h;have hl:nameAt fs k<fs.length:=by omega
  refine⟨nameAt fs k,List.mem_range.2 h, ?_⟩;have e:fs.getD (nameAt fs k) Fld.none=fs[nameAt fs k]:=by simp[hl]
  rw[e];exact List.findIdx_getElem (xs:=fs) (p:=fun f:Fld=>f.nm.toList==k.toList) (w:=hl)
theorem lW (fs:List Fld) (i:Nat) (hi:i<fs.length):En fs i=decide (nameAt fs (fs.getD i Fld.none).nm<i):=any_eq fs _ i (Nat.le_of_lt hi)
theorem Bf (f:Fld) (b cb:Nat) (k:ByteArray) (w:World) (Nn:cb<w.heap.size) (hc:w.cell? ⟨cb,0,none⟩=some (.string k)):
  Calls Tryz.prog 211 #[.agg #[.string f.nm,.int .i64 f.kind,.int .i64 f.least,.int .i64 f.most,.slice (some ⟨b,0,none⟩) f.words.length f.words.length,.string f.to,.int .i64 f.role,.bool f.must,.bool f.fixed,.string f.de,.string f.we],.pointer (some ⟨cb,0,none⟩)] w fun e w'=>e=.returned (.bool (f.nm.toList==k.toList))∧Bel w w':=by
 go_enter Tryz.func211,Tryz.ntmps211
 go_wp2;go_ret;exact⟨rfl,ab br _⟩
theorem xK (B cb:Nat) (fs:List Fld) (k:ByteArray) (w:World) (h:bW w B fs) (Nn:cb<w.heap.size) (hc:w.cell? ⟨cb,0,none⟩=some (.string k)):
  Calls Tryz.prog 210 #[.slice (some ⟨B,0,none⟩) fs.length fs.length,.func (.func 211) #[] #[.pointer (some ⟨cb,0,none⟩)]] w fun e w'=>(∃ r:Int,e=.returned (.int .i64 r)∧r=(if nameAt fs k<fs.length then (nameAt fs k:Int) else -1))∧Bel w w':=by
 have hl:=h.len;have HH:=hid h;have HC:=hid hc;obtain⟨R,hR⟩:∃ R:Int,R=(if nameAt fs k<fs.length then (nameAt fs k:Int) else -1):=⟨_,rfl⟩
 rw[← hR];have HR:=hid hR;clear h hc hR;go_enter Tryz.func210,Tryz.ntmps210
 go_wp2;go_loopw [8] (fun i wr=>∃ q:Nat,q≤fs.length∧i=.int .i64 q∧q≤nameAt fs k∧Bel w wr) (fun i _=>fs.length - (intOf i).toNat)
 case atStart=>exact⟨0,nz,rfl,nz,br⟩
 case round=>
  obtain⟨q,hq,rfl,iM,hW⟩:=hrel;have HN:=hid iM;clear iM;by_cases av:q<fs.length
  ·obtain⟨f,fH⟩:∃ f,f=fs.getD q Fld.none:=⟨_,rfl⟩
   obtain⟨b,_,hf⟩:=(HH.out.later hW).arg av fH;obtain⟨c0,c1,c2,c3,c4,c5,c6,c7,c8,c9,c10,_,_⟩:=hf;have HX:=hid (And.intro (lo Nn hW.size) ((hW.cell (p:=⟨cb,0,none⟩) Nn).trans HC.out));cases ht:(f.nm.toList==k.toList)
   ·have HM:=hid (iQ fs k q av HN.out (by rw[← fH];exact ht));clear fH;go_wp2_with fail
    refine(Bf f b cb k wr HX.out.1 HX.out.2).mono ?_;rintro e w2 ⟨rfl,aA⟩;have bE:=aa hW aA;clear aA c0 c1 c2 c3 c4 c5 c6 c7 c8 c9 c10;go_wp2;go_roundw
    case rel=>exact⟨q+1,by omega,by go_num,HM.out,bE⟩
    case measure=>simp[intOf];omega
   ·have HM:=hid (jP fs k q av HN.out (by rw[← fH];exact ht));clear fH;go_wp2_with fail
    refine(Bf f b cb k wr HX.out.1 HX.out.2).mono ?_;rintro e w2 ⟨rfl,aA⟩;have bE:=aa hW aA;clear aA c0 c1 c2 c3 c4 c5 c6 c7 c8 c9 c10;go_wp2;go_ret;exact⟨⟨_,rfl,by rw[HR.out,HM.out,if_pos av]⟩,bE⟩
  ·go_wp2;go_ret;exact⟨⟨_,rfl,by rw[HR.out,if_neg (by have:=HN.out;omega)]⟩,hW⟩
theorem fieldPlace (B:Nat) (fs:List Fld) (k:ByteArray) (w:World) (h:bW w B fs):
  Calls Tryz.prog 195 #[.slice (some ⟨B,0,none⟩) fs.length fs.length,.string k] w fun e w'=>(∃ r:Int,e=.returned (.int .i64 r)∧r=(if nameAt fs k<fs.length then (nameAt fs k:Int) else -1))∧Bel w w':=by
 have HH:=hid h;obtain⟨R,hR⟩:∃ R:Int,R=(if nameAt fs k<fs.length then (nameAt fs k:Int) else -1):=⟨_,rfl⟩
 rw[← hR];have HR:=hid hR;clear h hR;go_enter Tryz.func195,Tryz.ntmps195
 go_wp2_with fail
 refine(xK B w.heap.size fs k _ (HH.out.later (ab br _)) (by simp) (by simp)).mono ?_;rintro e w2 ⟨⟨r,rfl,hr⟩,aA⟩;have bE:=aa (ab br _) aA;have hr':r=R:=by rw[hr,HR.out]
 subst hr';clear aA hr;go_wp2;go_ret;exact⟨⟨_,rfl,rfl⟩,bE⟩
end Go.Proofs.YtbiokpmdghmgcaaGreat
