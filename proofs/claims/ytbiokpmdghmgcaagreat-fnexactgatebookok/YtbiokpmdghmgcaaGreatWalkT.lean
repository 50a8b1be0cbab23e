import Derived.Deep.RegionWith
import Derived.BigQuiet
import Derived.Deep.QuietTactic
import Derived.Deep.Light
import Derived.Test.YtbiokpmdghmgcaaGreatWalkN
import Derived.Test.YtbiokpmdghmgcaaGreatPlainC
import Derived.Test.YtbiokpmdghmgcaaGreatWalkA
namespace Go.Proofs.YtbiokpmdghmgcaaGreat
set_option maxHeartbeats 40000000
open Go.RowKit
theorem lN {a b:Int} {c d:Bool} (h:a=b) (g:c=d):Ending.returned (.tuple #[.int .i64 a,.bool c])=.returned (.tuple #[.int .i64 b,.bool d]):=by rw[h,g]
def dh (s:ByteArray):Int:=if Pl.du s then Pl.cM s.data.toList else 0
theorem qC (s:ByteArray) (w:World) (h1:1≤s.size) (h7:s.size≤7) (hl:Pl.lead s=false):
  Calls Tryz.prog 209 #[.string s] w fun e w'=>e=.returned (.tuple #[.int .i64 (dh s),.bool (Pl.du s)])∧w=w':=by
 have Iq:=Pl.fI s h1;have HN:=hid hl;have HB:Hid ((s[0].toNat:Int)=48→(s.toList==[48])=true):=by
  intro h0;rw[Pl.na s (by omega),Pl.lQ]at hl;have fa:¬ 1<s.size:=by
   intro h2;simp[h2]at hl;omega
  refine Pl.zt s (by omega) 48 ?_;rw[Pl.head_eq s (by omega)];have:s[0].toNat=48:=by omega
  exact UInt8.toNat_inj.1 (by simpa using this)
 clear hl;have hd7:decide ((7:Int)<(s.size:Int))=false:=by simp;omega
 have H0:Hid ((((s[0].toNat:Int)==48)=true∧(s.toList==[48])=true)∨((s[0].toNat:Int)==48)=false):=by
  by_cases h0:(s[0].toNat:Int)=48
  ·exact Or.inl ⟨by simp[h0],HB.out h0⟩
  ·exact Or.inr (by simp[h0])
 clear HB;rcases H0.out with⟨h0b,hb⟩|h0b
 all_goals
  clear H0;go_enter Tryz.func209,Tryz.ntmps209
  go_wp2;go_loop [4,24] (fun n i=>∃ k:Nat,k≤s.size∧i=.int .i64 k∧n=.int .i64 (Pl.cM (s.data.toList.take k))∧(s.data.toList.take k).all Pl.digit=true) (fun _ i=>s.size - (intOf i).toNat)
  case atStart=>exact⟨0,nz,rfl,rfl,rfl⟩
  case round=>
   obtain⟨k,hk,rfl,rfl,av⟩:=hrel;have E9:=Pl.gW s k hk (by omega) av;obtain⟨b1,b2⟩:=E9;have HA:=hid av;clear av;by_cases aw:k<s.size
   ·have HS:=hid (Pl.j6 s k aw);by_cases hd:48≤(s[k].toNat:Int)∧(s[k].toNat:Int)≤57
    ·obtain⟨d1,d2⟩:=hd;go_wp2;go_round
     case rel=>exact⟨k+1,by omega,by go_num,by rw[HS.out],by rw[Pl.gH _ _ _ aw,HA.out];simp[Pl.digit];omega⟩
     case measure=>simp[intOf];omega
    ·have HF:Hid (Pl.du s=false):=by
      show Pl.du s=false;have:s.data.toList.all Pl.digit=false:=Pl.all_false _ s k aw (by rw[Bool.eq_false_iff];simp[Pl.digit];omega);simp[Pl.du,this]
     by_cases hd1:48≤(s[k].toNat:Int)
     all_goals
      go_wp2;go_ret2;exact⟨lN (by simp[dh,HF.out]) HF.out.symm,rfl⟩
   ·have HF:Hid (Pl.du s=true∧Pl.cM s.data.toList=Pl.cM (s.data.toList.take k)):=by
     show Pl.du s=true∧Pl.cM s.data.toList=Pl.cM (s.data.toList.take k);have e:s.data.toList.take k=s.data.toList:=List.take_of_length_le (by simp;omega);have ha:=HA.out;rw[e]at ha ⊢;refine⟨?_,rfl⟩;simp[Pl.du,ha,HN.out];omega
    go_wp2;go_ret2;exact⟨lN (by simp[dh,HF.out.1,HF.out.2]) HF.out.1.symm,rfl⟩
theorem jZ (s:ByteArray) (w:World) (hs:s.size≤maxLen):
  Calls Tryz.prog 209 #[.string s] w fun e w'=>e=.returned (.tuple #[.int .i64 (dh s),.bool (Pl.du s)])∧w=w':=by
 unfold maxLen at hs;by_cases h1:1≤s.size
 ·have Iq:=Pl.fI s h1;by_cases h7:s.size≤7
  ·cases hl:Pl.lead s
   ·exact qC s w h1 h7 hl
   ·have HF:Hid (Pl.du s=false):=by show Pl.du s=false;simp[Pl.du,hl]
    have hd7:decide ((7:Int)<(s.size:Int))=false:=by simp;omega
    rw[Pl.na s (by omega),Pl.lQ]at hl;simp only[Bool.and_eq_true,decide_eq_true_eq]at hl;obtain⟨h2,h0⟩:=hl;have h0':((s[0].toNat:Int)==48)=true:=h0;have hb:=Pl.tV s h2 48;clear h0;go_enter Tryz.func209,Tryz.ntmps209
    go_wp2;go_ret2;exact⟨lN (by simp[dh,HF.out]) HF.out.symm,rfl⟩
  ·have HF:Hid (Pl.du s=false):=by show Pl.du s=false;simp[Pl.du,h7]
   have hd7:decide ((7:Int)<(s.size:Int))=true:=by simp;omega
   go_enter Tryz.func209,Tryz.ntmps209
   go_wp2;go_ret2;exact⟨lN (by simp[dh,HF.out]) HF.out.symm,rfl⟩
 ·have HF:Hid (Pl.du s=false):=by show Pl.du s=false;simp[Pl.du,h1]
  have Iq:=Pl.gn s h1;go_enter Tryz.func209,Tryz.ntmps209
  go_wp2;go_ret2;exact⟨lN (by simp[dh,HF.out]) HF.out.symm,rfl⟩
theorem nT (W:World) (o:Obj):(Instr.makeMap 273 none).run Tryz.prog (W.alloc o)=.ok (.map (some (W.heap.size+1))) ((W.alloc o).alloc (.map #[] 0)):=by
 rw[run_makeMap];simp[World.size_alloc]
theorem yW (w:World) (o:Obj) (f:Value):(Instr.mapUpdate 273 (.map (some (w.heap.size+1))) (.int .i64 1) f).run Tryz.prog ((w.alloc o).alloc (.map #[] 0))=.ok () ((w.alloc o).alloc (.map #[⟨.int .i64 1,f,0⟩] 1)):=
 m7 (w.alloc o) _ (by simp) #[] 0 1 f rfl
theorem zw (w:World) (o:Obj) (f1 f:Value):(Instr.mapUpdate 273 (.map (some (w.heap.size+1))) (.int .i64 2) f).run Tryz.prog ((w.alloc o).alloc (.map #[⟨.int .i64 1,f1,0⟩] 1))=.ok () ((w.alloc o).alloc (.map #[⟨.int .i64 1,f1,0⟩,⟨.int .i64 2,f,1⟩] 2)):=
 m7 (w.alloc o) _ (by simp) #[⟨.int .i64 1,f1,0⟩] 1 2 f rfl
theorem yG (w:World) (o:Obj) (f1 f2 f:Value):(Instr.mapUpdate 273 (.map (some (w.heap.size+1))) (.int .i64 3) f).run Tryz.prog ((w.alloc o).alloc (.map #[⟨.int .i64 1,f1,0⟩,⟨.int .i64 2,f2,1⟩] 2))=.ok () ((w.alloc o).alloc (.map #[⟨.int .i64 1,f1,0⟩,⟨.int .i64 2,f2,1⟩,⟨.int .i64 3,f,2⟩] 3)):=
 m7 (w.alloc o) _ (by simp) #[⟨.int .i64 1,f1,0⟩,⟨.int .i64 2,f2,1⟩] 2 3 f rfl
theorem yp (w:World) (o:Obj) (f1 f2 f3 f:Value):(Instr.mapUpdate 273 (.map (some (w.heap.size+1))) (.int .i64 4) f).run Tryz.prog ((w.alloc o).alloc (.map #[⟨.int .i64 1,f1,0⟩,⟨.int .i64 2,f2,1⟩,⟨.int .i64 3,f3,2⟩] 3))=.ok () ((w.alloc o).alloc (.map #[⟨.int .i64 1,f1,0⟩,⟨.int .i64 2,f2,1⟩,⟨.int .i64 3,f3,2⟩,⟨.int .i64 4,f,3⟩] 4)):=
 m7 (w.alloc o) _ (by simp) #[⟨.int .i64 1,f1,0⟩,⟨.int .i64 2,f2,1⟩,⟨.int .i64 3,f3,2⟩] 3 4 f rfl
theorem GR (w:World) (o:Obj) (f1 f2 f3 f4:Value):(Instr.lookup 273 (.map (some (w.heap.size+1))) (.int .i64 1) true).run Tryz.prog ((w.alloc o).alloc (.map #[⟨.int .i64 1,f1,0⟩,⟨.int .i64 2,f2,1⟩,⟨.int .i64 3,f3,2⟩,⟨.int .i64 4,f4,3⟩] 4))=.ok (.tuple #[f1,.bool true]) ((w.alloc o).alloc (.map #[⟨.int .i64 1,f1,0⟩,⟨.int .i64 2,f2,1⟩,⟨.int .i64 3,f3,2⟩,⟨.int .i64 4,f4,3⟩] 4)):=
 lA (w.alloc o) _ (by simp) _ 4 1 0 f1 rfl
theorem Hh (w:World) (o:Obj) (f1 f2 f3 f4:Value):(Instr.lookup 273 (.map (some (w.heap.size+1))) (.int .i64 2) true).run Tryz.prog ((w.alloc o).alloc (.map #[⟨.int .i64 1,f1,0⟩,⟨.int .i64 2,f2,1⟩,⟨.int .i64 3,f3,2⟩,⟨.int .i64 4,f4,3⟩] 4))=.ok (.tuple #[f2,.bool true]) ((w.alloc o).alloc (.map #[⟨.int .i64 1,f1,0⟩,⟨.int .i64 2,f2,1⟩,⟨.int .i64 3,f3,2⟩,⟨.int .i64 4,f4,3⟩] 4)):=
 lA (w.alloc o) _ (by simp) _ 4 2 1 f2 rfl
theorem G9 (w:World) (o:Obj) (f1 f2 f3 f4:Value):(Instr.lookup 273 (.map (some (w.heap.size+1))) (.int .i64 3) true).run Tryz.prog ((w.alloc o).alloc (.map #[⟨.int .i64 1,f1,0⟩,⟨.int .i64 2,f2,1⟩,⟨.int .i64 3,f3,2⟩,⟨.int .i64 4,f4,3⟩] 4))=.ok (.tuple #[f3,.bool true]) ((w.alloc o).alloc (.map #[⟨.int .i64 1,f1,0⟩,⟨.int .i64 2,f2,1⟩,⟨.int .i64 3,f3,2⟩,⟨.int .i64 4,f4,3⟩] 4)):=
 lA (w.alloc o) _ (by simp) _ 4 3 2 f3 rfl
theorem GW (w:World) (o:Obj) (f1 f2 f3 f4:Value):(Instr.lookup 273 (.map (some (w.heap.size+1))) (.int .i64 4) true).run Tryz.prog ((w.alloc o).alloc (.map #[⟨.int .i64 1,f1,0⟩,⟨.int .i64 2,f2,1⟩,⟨.int .i64 3,f3,2⟩,⟨.int .i64 4,f4,3⟩] 4))=.ok (.tuple #[f4,.bool true]) ((w.alloc o).alloc (.map #[⟨.int .i64 1,f1,0⟩,⟨.int .i64 2,f2,1⟩,⟨.int .i64 3,f3,2⟩,⟨.int .i64 4,f4,3⟩] 4)):=
 lA (w.alloc o) _ (by simp) _ 4 4 3 f4 rfl
theorem GO (w:World) (o:Obj) (f1 f2 f3 f4:Value) (n:Int) (h1:(n==1)=false) (h2:(n==2)=false) (h3:(n==3)=false) (h4:(n==4)=false):
  (Instr.lookup 273 (.map (some (w.heap.size+1))) (.int .i64 n) true).run Tryz.prog ((w.alloc o).alloc (.map #[⟨.int .i64 1,f1,0⟩,⟨.int .i64 2,f2,1⟩,⟨.int .i64 3,f3,2⟩,⟨.int .i64 4,f4,3⟩] 4))=.ok (.tuple #[.nilFunc,.bool false]) ((w.alloc o).alloc (.map #[⟨.int .i64 1,f1,0⟩,⟨.int .i64 2,f2,1⟩,⟨.int .i64 3,f3,2⟩,⟨.int .i64 4,f4,3⟩] 4)):=
 wB (w.alloc o) _ (by simp) _ 4 n (by simp[Instr.findNow,Instr.sameNow,h1,h2,h3,h4])
theorem si (nm:ByteArray) (least most:Int) (vs:Value) (to:ByteArray) (role:Int) (must fixed:Bool) (de we:ByteArray) (w:World):
  Calls Tryz.prog 197 #[.agg #[.string nm,.int .i64 1,.int .i64 least,.int .i64 most,vs,.string to,.int .i64 role,.bool must,.bool fixed,.string de,.string we]] w
   fun e w'=>e=.returned (.tuple #[.iface 268 (.agg #[.string nm,.int .i64 1,.int .i64 least,.int .i64 most,vs,.string to,.int .i64 role,.bool must,.bool fixed,.string de,.string we]),.bool true])∧Bel w w':=by
 have gT:=nT w;have A6:=yW w;have JW:=zw w;have EO:=yG w;have JB:=yp w;have hl:=GR w;go_enter Tryz.func197,Tryz.ntmps197
 go_wp2;go_ret2;refine⟨rfl, ?_⟩;repeat(first|exact br|refine ab ?_ _|refine Below.drew ?_)
theorem rm (nm:ByteArray) (least most:Int) (vs:Value) (to:ByteArray) (role:Int) (must fixed:Bool) (de we:ByteArray) (w:World):
  Calls Tryz.prog 197 #[.agg #[.string nm,.int .i64 2,.int .i64 least,.int .i64 most,vs,.string to,.int .i64 role,.bool must,.bool fixed,.string de,.string we]] w
   fun e w'=>e=.returned (.tuple #[.iface 270 (.agg #[.string nm,.int .i64 2,.int .i64 least,.int .i64 most,vs,.string to,.int .i64 role,.bool must,.bool fixed,.string de,.string we]),.bool true])∧Bel w w':=by
 have gT:=nT w;have A6:=yW w;have JW:=zw w;have EO:=yG w;have JB:=yp w;have hl:=Hh w;go_enter Tryz.func197,Tryz.ntmps197
 go_wp2;go_ret2;refine⟨rfl, ?_⟩;repeat(first|exact br|refine ab ?_ _|refine Below.drew ?_)
theorem rJ (nm:ByteArray) (least most:Int) (vs:Value) (to:ByteArray) (role:Int) (must fixed:Bool) (de we:ByteArray) (w:World):
  Calls Tryz.prog 197 #[.agg #[.string nm,.int .i64 3,.int .i64 least,.int .i64 most,vs,.string to,.int .i64 role,.bool must,.bool fixed,.string de,.string we]] w
   fun e w'=>e=.returned (.tuple #[.iface 271 (.agg #[.string nm,.int .i64 3,.int .i64 least,.int .i64 most,vs,.string to,.int .i64 role,.bool must,.bool fixed,.string de,.string we]),.bool true])∧Bel w w':=by
 have gT:=nT w;have A6:=yW w;have JW:=zw w;have EO:=yG w;have JB:=yp w;have hl:=G9 w;go_enter Tryz.func197,Tryz.ntmps197
 go_wp2;go_ret2;refine⟨rfl, ?_⟩;repeat(first|exact br|refine ab ?_ _|refine Below.drew ?_)
theorem ry (nm:ByteArray) (least most:Int) (vs:Value) (to:ByteArray) (role:Int) (must fixed:Bool) (de we:ByteArray) (w:World):
  Calls Tryz.prog 197 #[.agg #[.string nm,.int .i64 4,.int .i64 least,.int .i64 most,vs,.string to,.int .i64 role,.bool must,.bool fixed,.string de,.string we]] w
   fun e w'=>e=.returned (.tuple #[.iface 272 (.agg #[.string nm,.int .i64 4,.int .i64 least,.int .i64 most,vs,.string to,.int .i64 role,.bool must,.bool fixed,.string de,.string we]),.bool true])∧Bel w w':=by
 have gT:=nT w;have A6:=yW w;have JW:=zw w;have EO:=yG w;have JB:=yp w;have hl:=GW w;go_enter Tryz.func197,Tryz.ntmps197
 go_wp2;go_ret2;refine⟨rfl, ?_⟩;repeat(first|exact br|refine ab ?_ _|refine Below.drew ?_)
theorem rH (nm:ByteArray) (kind least most:Int) (vs:Value) (to:ByteArray) (role:Int) (must fixed:Bool) (de we:ByteArray) (w:World)
  (h1:(kind==1)=false) (h2:(kind==2)=false) (h3:(kind==3)=false) (h4:(kind==4)=false):
  Calls Tryz.prog 197 #[.agg #[.string nm,.int .i64 kind,.int .i64 least,.int .i64 most,vs,.string to,.int .i64 role,.bool must,.bool fixed,.string de,.string we]] w
   fun e w'=>e=.returned (.tuple #[.nilIface,.bool false])∧Bel w w':=by
 have gT:=nT w;have A6:=yW w;have JW:=zw w;have EO:=yG w;have JB:=yp w;have hl:=fun o f1 f2 f3 f4=>GO w o f1 f2 f3 f4 kind h1 h2 h3 h4;go_enter Tryz.func197,Tryz.ntmps197
 go_wp2;go_ret2;refine⟨rfl, ?_⟩;repeat(first|exact br|refine ab ?_ _|refine Below.drew ?_)
def iw (least most:Int) (v:ByteArray):Bool:=Pl.du v&&decide (least≤dh v)&&decide (dh v≤most)
def gy (least most:Int) (v:ByteArray):Bool:=decide (least≤(v.size:Int))&&decide ((v.size:Int)≤most)&&Pl.eE v
theorem CA (nm:ByteArray) (kind least most:Int) (vs:Value) (to:ByteArray) (role:Int) (must fixed:Bool) (de we v:ByteArray) (w:World) (hv:v.size≤maxLen):
  Calls Tryz.prog 238 #[.agg #[.string nm,.int .i64 kind,.int .i64 least,.int .i64 most,vs,.string to,.int .i64 role,.bool must,.bool fixed,.string de,.string we],.string v] w
   fun e w'=>e=.returned (.bool (iw least most v))∧Bel w w':=by
 cases hd:Pl.du v
 ·have HF:Hid (iw least most v=false):=by show iw least most v=false;simp[iw,hd]
  have HD:=hid hd;clear hd;go_enter Tryz.func238,Tryz.ntmps238
  go_wp2_with fail
  refine(jZ _ _ hv).mono ?_;rintro e w' ⟨rfl,rfl⟩;rw[HD.out];go_wp2;go_ret;exact⟨Pl.ae HF.out.symm,ab br _⟩
 ·have HF:Hid (iw least most v=(decide (least≤dh v)&&decide (dh v≤most))):=by show iw least most v=_;simp[iw,hd]
  have HD:=hid hd;clear hd;by_cases h1:least≤dh v
  all_goals
   go_enter Tryz.func238,Tryz.ntmps238
   go_wp2_with fail
   refine(jZ _ _ hv).mono ?_;rintro e w' ⟨rfl,rfl⟩;rw[HD.out];go_wp2;go_ret;refine⟨Pl.ae ?_,ab br _⟩;rw[HF.out,Bool.eq_iff_iff];simp
   omega
theorem zp (nm:ByteArray) (kind least most:Int) (b off cap:Nat) (to:ByteArray) (role:Int) (must fixed:Bool) (de we v:ByteArray) (ss:List ByteArray) (w:World) (hb:b<w.heap.size) (hl:ss.length≤maxLen) (hc:∀ i,i<ss.length→w.cell? ⟨b,off+i,none⟩=some (.string (ss.getD i ByteArray.empty))):
  Calls Tryz.prog 241 #[.agg #[.string nm,.int .i64 kind,.int .i64 least,.int .i64 most,.slice (some ⟨b,off,none⟩) ss.length cap,.string to,.int .i64 role,.bool must,.bool fixed,.string de,.string we],.string v] w
   fun e w'=>e=.returned (.bool (Pl.has ss v))∧Bel w w':=by
 have HX:Hid (∀ o,Calls Tryz.prog 242 #[.slice (some ⟨b,off,none⟩) ss.length cap,.string v] (w.alloc o) fun e w'=>e=.returned (.bool (Pl.has ss v))∧(w.alloc o)=w'):=by
  intro o;refine qB b off cap ss v _ hl fun i hi=> ?_;rw[← hc i hi];exact(ab br o:Bel w _).cell (p:=⟨b,off+i,none⟩) hb
 clear hc;go_enter Tryz.func241,Tryz.ntmps241
 go_wp2_with fail
 refine(HX.out _).mono ?_;rintro e w' ⟨rfl,rfl⟩;go_wp2;go_ret;exact⟨rfl,ab br _⟩
theorem yv (nm:ByteArray) (kind least most:Int) (vs:Value) (to:ByteArray) (role:Int) (must fixed:Bool) (de we v:ByteArray) (w:World) (hv:v.size≤maxLen):
  Calls Tryz.prog 246 #[.agg #[.string nm,.int .i64 kind,.int .i64 least,.int .i64 most,vs,.string to,.int .i64 role,.bool must,.bool fixed,.string de,.string we],.string v] w
   fun e w'=>e=.returned (.bool (gy least most v))∧Bel w w':=by
 unfold maxLen at hv;by_cases bC:least≤(v.size:Int)∧(v.size:Int)≤most
 ·have HI:Hid (gy least most v=Pl.eE v):=by show gy least most v=_;simp[gy,bC.1,bC.2]
  obtain⟨i1,i2⟩:=bC;have t1:decide ((v.size:Int)<least)=false:=by simp;omega
  have t2:decide (most<(v.size:Int))=false:=by simp;omega
  clear i1 i2;go_enter Tryz.func246,Tryz.ntmps246
  go_wp2;go_loop [20] (fun i=>∃ k:Nat,k≤v.size∧i=.int .i64 k∧(v.data.toList.take k).all Pl.eD=true) (fun i=>v.size - (intOf i).toNat)
  case atStart=>exact⟨0,nz,rfl,rfl⟩
  case round=>
   obtain⟨k,hk,rfl,av⟩:=hrel;have HA:=hid av;clear av;by_cases aw:k<v.size
   ·by_cases hd:33≤(v[k].toNat:Int)∧(v[k].toNat:Int)≤126
    ·have HT:Hid (Pl.eD v[k]=true):=by show Pl.eD v[k]=true;simp[Pl.eD];omega
     obtain⟨d1,d2⟩:=hd;go_wp2;go_round
     case rel=>exact⟨k+1,by omega,by go_num,by rw[Pl.gH _ _ _ aw,HA.out,HT.out];rfl⟩
     case measure=>simp[intOf];omega
    ·have HF:Hid (Pl.eE v=false):=Pl.all_false _ v k aw (by rw[Bool.eq_false_iff];simp[Pl.eD];omega);by_cases hd1:33≤(v[k].toNat:Int)
     all_goals
      go_wp2;go_ret;exact⟨Pl.ae (by rw[HI.out,HF.out]),ab br _⟩
   ·have HT:Hid (Pl.eE v=true):=by
     show Pl.eE v=true;unfold Pl.eE;rw[← Pl.jj Pl.eD v k (by omega)];exact HA.out
    go_wp2;go_ret;exact⟨Pl.ae (by rw[HI.out,HT.out]),ab br _⟩
 ·have HF:Hid (gy least most v=false):=by
   show gy least most v=false;have:(decide (least≤(v.size:Int))&&decide ((v.size:Int)≤most))=false:=by rw[Bool.eq_false_iff];simp;omega
   simp[gy,this]
  by_cases h1:(v.size:Int)<least
  all_goals
   go_enter Tryz.func246,Tryz.ntmps246
   go_wp2;go_ret;exact⟨Pl.ae HF.out.symm,ab br _⟩
theorem Ak (nm:ByteArray) (kind least most:Int) (vs:Value) (to:ByteArray) (role:Int) (must fixed:Bool) (de we v:ByteArray) (w:World) (hv:v.size≤maxLen):
  Calls Tryz.prog 249 #[.agg #[.string nm,.int .i64 kind,.int .i64 least,.int .i64 most,vs,.string to,.int .i64 role,.bool must,.bool fixed,.string de,.string we],.string v] w
   fun e w'=>e=.returned (.bool (Pl.aq v))∧Bel w w':=by
 go_enter Tryz.func249,Tryz.ntmps249
 go_wp2_with (go_at_call 89;refine(aK _ _ hv).mono ?_;rintro e w' ⟨rfl,rfl⟩)
 go_ret;exact⟨rfl,ab br _⟩
theorem DW (nm:ByteArray) (kind least most:Int) (vs:Value) (to:ByteArray) (role:Int) (must fixed:Bool) (de we:ByteArray) (w:World):(method 393 268 (.agg #[.string nm,.int .i64 kind,.int .i64 least,.int .i64 most,vs,.string to,.int .i64 role,.bool must,.bool fixed,.string de,.string we]) "loop.example/wharfdesk/impl.fits").run Tryz.prog w=.ok (238,.agg #[.string nm,.int .i64 kind,.int .i64 least,.int .i64 most,vs,.string to,.int .i64 role,.bool must,.bool fixed,.string de,.string we]) w:=by kernel_rfl
theorem D6 (nm:ByteArray) (kind least most:Int) (vs:Value) (to:ByteArray) (role:Int) (must fixed:Bool) (de we:ByteArray) (w:World):(method 393 270 (.agg #[.string nm,.int .i64 kind,.int .i64 least,.int .i64 most,vs,.string to,.int .i64 role,.bool must,.bool fixed,.string de,.string we]) "loop.example/wharfdesk/impl.fits").run Tryz.prog w=.ok (241,.agg #[.string nm,.int .i64 kind,.int .i64 least,.int .i64 most,vs,.string to,.int .i64 role,.bool must,.bool fixed,.string de,.string we]) w:=by kernel_rfl
theorem Ex (nm:ByteArray) (kind least most:Int) (vs:Value) (to:ByteArray) (role:Int) (must fixed:Bool) (de we:ByteArray) (w:World):(method 393 271 (.agg #[.string nm,.int .i64 kind,.int .i64 least,.int .i64 most,vs,.string to,.int .i64 role,.bool must,.bool fixed,.string de,.string we]) "loop.example/wharfdesk/impl.fits").run Tryz.prog w=.ok (246,.agg #[.string nm,.int .i64 kind,.int .i64 least,.int .i64 most,vs,.string to,.int .i64 role,.bool must,.bool fixed,.string de,.string we]) w:=by kernel_rfl
theorem DP (nm:ByteArray) (kind least most:Int) (vs:Value) (to:ByteArray) (role:Int) (must fixed:Bool) (de we:ByteArray) (w:World):(method 393 272 (.agg #[.string nm,.int .i64 kind,.int .i64 least,.int .i64 most,vs,.string to,.int .i64 role,.bool must,.bool fixed,.string de,.string we]) "loop.example/wharfdesk/impl.fits").run Tryz.prog w=.ok (249,.agg #[.string nm,.int .i64 kind,.int .i64 least,.int .i64 most,vs,.string to,.int .i64 role,.bool must,.bool fixed,.string de,.string we]) w:=by kernel_rfl
theorem ow (nm:ByteArray) (kind least most:Int) (vs:Value) (to:ByteArray) (role:Int) (must fixed:Bool) (de we v:ByteArray) (w:World) (hv:v.size≤maxLen):
  Calls Tryz.prog 198 #[.iface 268 (.agg #[.string nm,.int .i64 kind,.int .i64 least,.int .i64 most,vs,.string to,.int .i64 role,.bool must,.bool fixed,.string de,.string we]),.string v] w
   fun e w'=>e=.returned (.bool (decide (1≤v.size)&&iw least most v))∧Bel w w':=by
 have hm:=DW nm kind least most vs to role must fixed de we;have HX:=hid (CA nm kind least most vs to role must fixed de we v w hv);clear hv;by_cases h1:1≤v.size
 ·have he:=Pl.fI v h1;have HD:Hid (decide (1≤v.size)=true):=by show decide (1≤v.size)=true;simp[h1]
  clear h1;go_enter Tryz.func198,Tryz.ntmps198
  go_wp2_with fail
  refine HX.out.mono ?_;rintro e w' ⟨rfl,hb⟩;go_wp2;go_ret;exact⟨Pl.ae (by rw[HD.out];rfl),hb⟩
 ·have he:=Pl.gn v h1;have HD:Hid (decide (1≤v.size)=false):=by show decide (1≤v.size)=false;simp[h1]
  clear h1;go_enter Tryz.func198,Tryz.ntmps198
  go_wp2;go_ret;exact⟨Pl.ae (by rw[HD.out];rfl),br⟩
theorem oy (nm:ByteArray) (kind least most:Int) (b off cap:Nat) (to:ByteArray) (role:Int) (must fixed:Bool) (de we v:ByteArray) (ss:List ByteArray) (w:World) (hb:b<w.heap.size) (hl:ss.length≤maxLen) (hc:∀ i,i<ss.length→w.cell? ⟨b,off+i,none⟩=some (.string (ss.getD i ByteArray.empty))):
  Calls Tryz.prog 198 #[.iface 270 (.agg #[.string nm,.int .i64 kind,.int .i64 least,.int .i64 most,.slice (some ⟨b,off,none⟩) ss.length cap,.string to,.int .i64 role,.bool must,.bool fixed,.string de,.string we]),.string v] w
   fun e w'=>e=.returned (.bool (decide (1≤v.size)&&Pl.has ss v))∧Bel w w':=by
 have hm:=D6 nm kind least most (.slice (some ⟨b,off,none⟩) ss.length cap) to role must fixed de we;have HX:=hid (zp nm kind least most b off cap to role must fixed de we v ss w hb hl hc);clear hc;by_cases h1:1≤v.size
 ·have he:=Pl.fI v h1;have HD:Hid (decide (1≤v.size)=true):=by show decide (1≤v.size)=true;simp[h1]
  clear h1;go_enter Tryz.func198,Tryz.ntmps198
  go_wp2_with fail
  refine HX.out.mono ?_;rintro e w' ⟨rfl,hb⟩;go_wp2;go_ret;exact⟨Pl.ae (by rw[HD.out];rfl),hb⟩
 ·have he:=Pl.gn v h1;have HD:Hid (decide (1≤v.size)=false):=by show decide (1≤v.size)=false;simp[h1]
  clear h1;go_enter Tryz.func198,Tryz.ntmps198
  go_wp2;go_ret;exact⟨Pl.ae (by rw[HD.out];rfl),br⟩
theorem oD (nm:ByteArray) (kind least most:Int) (vs:Value) (to:ByteArray) (role:Int) (must fixed:Bool) (de we v:ByteArray) (w:World) (hv:v.size≤maxLen):
  Calls Tryz.prog 198 #[.iface 271 (.agg #[.string nm,.int .i64 kind,.int .i64 least,.int .i64 most,vs,.string to,.int .i64 role,.bool must,.bool fixed,.string de,.string we]),.string v] w
   fun e w'=>e=.returned (.bool (decide (1≤v.size)&&gy least most v))∧Bel w w':=by
 have hm:=Ex nm kind least most vs to role must fixed de we;have HX:=hid (yv nm kind least most vs to role must fixed de we v w hv);clear hv;by_cases h1:1≤v.size
 ·have he:=Pl.fI v h1;have HD:Hid (decide (1≤v.size)=true):=by show decide (1≤v.size)=true;simp[h1]
  clear h1;go_enter Tryz.func198,Tryz.ntmps198
  go_wp2_with fail
  refine HX.out.mono ?_;rintro e w' ⟨rfl,hb⟩;go_wp2;go_ret;exact⟨Pl.ae (by rw[HD.out];rfl),hb⟩
 ·have he:=Pl.gn v h1;have HD:Hid (decide (1≤v.size)=false):=by show decide (1≤v.size)=false;simp[h1]
  clear h1;go_enter Tryz.func198,Tryz.ntmps198
  go_wp2;go_ret;exact⟨Pl.ae (by rw[HD.out];rfl),br⟩
theorem nL (nm:ByteArray) (kind least most:Int) (vs:Value) (to:ByteArray) (role:Int) (must fixed:Bool) (de we v:ByteArray) (w:World) (hv:v.size≤maxLen):
  Calls Tryz.prog 198 #[.iface 272 (.agg #[.string nm,.int .i64 kind,.int .i64 least,.int .i64 most,vs,.string to,.int .i64 role,.bool must,.bool fixed,.string de,.string we]),.string v] w
   fun e w'=>e=.returned (.bool (decide (1≤v.size)&&Pl.aq v))∧Bel w w':=by
 have hm:=DP nm kind least most vs to role must fixed de we;have HX:=hid (Ak nm kind least most vs to role must fixed de we v w hv);clear hv;by_cases h1:1≤v.size
 ·have he:=Pl.fI v h1;have HD:Hid (decide (1≤v.size)=true):=by show decide (1≤v.size)=true;simp[h1]
  clear h1;go_enter Tryz.func198,Tryz.ntmps198
  go_wp2_with fail
  refine HX.out.mono ?_;rintro e w' ⟨rfl,hb⟩;go_wp2;go_ret;exact⟨Pl.ae (by rw[HD.out];rfl),hb⟩
 ·have he:=Pl.gn v h1;have HD:Hid (decide (1≤v.size)=false):=by show decide (1≤v.size)=false;simp[h1]
  clear h1;go_enter Tryz.func198,Tryz.ntmps198
  go_wp2;go_ret;exact⟨Pl.ae (by rw[HD.out];rfl),br⟩
theorem De (least most:Int) (ss:List ByteArray) (v:ByteArray):(decide (1≤v.size)&&iw least most v)=Pl.fits 1 least most ss v:=by
 cases h:Pl.du v
 ·simp[iw,Pl.fits,h]
 ·have h1:1≤v.size:=by simp only[Pl.du,Bool.and_eq_true,decide_eq_true_eq]at h;omega
  simp[iw,Pl.fits,h,dh,h1]
theorem Dd (least most:Int) (ss:List ByteArray) (v:ByteArray):(decide (1≤v.size)&&Pl.has ss v)=Pl.fits 2 least most ss v:=by
 simp[Pl.fits]
theorem Dc (least most:Int) (ss:List ByteArray) (v:ByteArray):(decide (1≤v.size)&&gy least most v)=Pl.fits 3 least most ss v:=by
 rw[Bool.eq_iff_iff];simp[Pl.fits,gy];constructor
 ·rintro⟨a,⟨b,c⟩,d⟩;exact⟨⟨⟨a,d⟩,b⟩,c⟩
 ·rintro⟨⟨⟨a,d⟩,b⟩,c⟩;exact⟨a,⟨b,c⟩,d⟩
theorem C7 (least most:Int) (ss:List ByteArray) (v:ByteArray):(decide (1≤v.size)&&Pl.aq v)=Pl.fits 4 least most ss v:=by
 rw[Bool.eq_iff_iff];simp[Pl.fits,Pl.aq];intro a _ _;exact a
theorem tt (nm:ByteArray) (least most:Int) (b off cap:Nat) (to:ByteArray) (role:Int) (must fixed:Bool) (de we v:ByteArray) (ss:List ByteArray) (w:World)
  (hv:v.size≤maxLen):
  Calls Tryz.prog 173 #[.agg #[.string nm,.int .i64 1,.int .i64 least,.int .i64 most,.slice (some ⟨b,off,none⟩) ss.length cap,.string to,.int .i64 role,.bool must,.bool fixed,.string de,.string we],.string v] w
   fun e w'=>e=.returned (.bool (Pl.fits 1 least most ss v))∧Bel w w':=by
 have HX:Hid (∀ w1,Bel w w1→Calls Tryz.prog 198 #[.iface 268 (.agg #[.string nm,.int .i64 1,.int .i64 least,.int .i64 most,.slice (some ⟨b,off,none⟩) ss.length cap,.string to,.int .i64 role,.bool must,.bool fixed,.string de,.string we]),.string v] w1 fun e w'=>e=.returned (.bool (Pl.fits 1 least most ss v))∧Bel w1 w'):=by
  intro w1 dW;rw[← De least most ss v];exact ow nm 1 least most _ to role must fixed de we v w1 hv
 clear hv;go_enter Tryz.func173,Tryz.ntmps173
 go_wp2_with fail
 refine(si _ _ _ _ _ _ _ _ _ _ _).mono ?_;rintro e w1 ⟨rfl,bj⟩;have aA:=aa (ab br _) bj;clear bj;go_wp2_with fail
 refine(HX.out _ aA).mono ?_;rintro e w2 ⟨rfl,aQ⟩;have cq:=aa aA aQ;go_wp2;go_ret;exact⟨rfl,cq⟩
theorem uc (nm:ByteArray) (least most:Int) (b off cap:Nat) (to:ByteArray) (role:Int) (must fixed:Bool) (de we v:ByteArray) (ss:List ByteArray) (w:World)
  (hb:b<w.heap.size) (hl:ss.length≤maxLen) (hc:∀ i,i<ss.length→w.cell? ⟨b,off+i,none⟩=some (.string (ss.getD i ByteArray.empty))):
  Calls Tryz.prog 173 #[.agg #[.string nm,.int .i64 2,.int .i64 least,.int .i64 most,.slice (some ⟨b,off,none⟩) ss.length cap,.string to,.int .i64 role,.bool must,.bool fixed,.string de,.string we],.string v] w
   fun e w'=>e=.returned (.bool (Pl.fits 2 least most ss v))∧Bel w w':=by
 have HX:Hid (∀ w1,Bel w w1→Calls Tryz.prog 198 #[.iface 270 (.agg #[.string nm,.int .i64 2,.int .i64 least,.int .i64 most,.slice (some ⟨b,off,none⟩) ss.length cap,.string to,.int .i64 role,.bool must,.bool fixed,.string de,.string we]),.string v] w1 fun e w'=>e=.returned (.bool (Pl.fits 2 least most ss v))∧Bel w1 w'):=by
  intro w1 dW;rw[← Dd least most ss v];exact oy nm 2 least most b off cap to role must fixed de we v ss w1 (lo hb dW.size) hl (fun i hi=>by rw[← hc i hi];exact dW.cell (p:=⟨b,off+i,none⟩) hb)
 clear hc hl;go_enter Tryz.func173,Tryz.ntmps173
 go_wp2_with fail
 refine(rm _ _ _ _ _ _ _ _ _ _ _).mono ?_;rintro e w1 ⟨rfl,bj⟩;have aA:=aa (ab br _) bj;clear bj;go_wp2_with fail
 refine(HX.out _ aA).mono ?_;rintro e w2 ⟨rfl,aQ⟩;have cq:=aa aA aQ;go_wp2;go_ret;exact⟨rfl,cq⟩
theorem td (nm:ByteArray) (least most:Int) (b off cap:Nat) (to:ByteArray) (role:Int) (must fixed:Bool) (de we v:ByteArray) (ss:List ByteArray) (w:World)
  (hv:v.size≤maxLen):
  Calls Tryz.prog 173 #[.agg #[.string nm,.int .i64 3,.int .i64 least,.int .i64 most,.slice (some ⟨b,off,none⟩) ss.length cap,.string to,.int .i64 role,.bool must,.bool fixed,.string de,.string we],.string v] w
   fun e w'=>e=.returned (.bool (Pl.fits 3 least most ss v))∧Bel w w':=by
 have HX:Hid (∀ w1,Bel w w1→Calls Tryz.prog 198 #[.iface 271 (.agg #[.string nm,.int .i64 3,.int .i64 least,.int .i64 most,.slice (some ⟨b,off,none⟩) ss.length cap,.string to,.int .i64 role,.bool must,.bool fixed,.string de,.string we]),.string v] w1 fun e w'=>e=.returned (.bool (Pl.fits 3 least most ss v))∧Bel w1 w'):=by
  intro w1 dW;rw[← Dc least most ss v];exact oD nm 3 least most _ to role must fixed de we v w1 hv
 clear hv;go_enter Tryz.func173,Tryz.ntmps173
 go_wp2_with fail
 refine(rJ _ _ _ _ _ _ _ _ _ _ _).mono ?_;rintro e w1 ⟨rfl,bj⟩;have aA:=aa (ab br _) bj;clear bj;go_wp2_with fail
 refine(HX.out _ aA).mono ?_;rintro e w2 ⟨rfl,aQ⟩;have cq:=aa aA aQ;go_wp2;go_ret;exact⟨rfl,cq⟩
theorem tM (nm:ByteArray) (least most:Int) (b off cap:Nat) (to:ByteArray) (role:Int) (must fixed:Bool) (de we v:ByteArray) (ss:List ByteArray) (w:World)
  (hv:v.size≤maxLen):
  Calls Tryz.prog 173 #[.agg #[.string nm,.int .i64 4,.int .i64 least,.int .i64 most,.slice (some ⟨b,off,none⟩) ss.length cap,.string to,.int .i64 role,.bool must,.bool fixed,.string de,.string we],.string v] w
   fun e w'=>e=.returned (.bool (Pl.fits 4 least most ss v))∧Bel w w':=by
 have HX:Hid (∀ w1,Bel w w1→Calls Tryz.prog 198 #[.iface 272 (.agg #[.string nm,.int .i64 4,.int .i64 least,.int .i64 most,.slice (some ⟨b,off,none⟩) ss.length cap,.string to,.int .i64 role,.bool must,.bool fixed,.string de,.string we]),.string v] w1 fun e w'=>e=.returned (.bool (Pl.fits 4 least most ss v))∧Bel w1 w'):=by
  intro w1 dW;rw[← C7 least most ss v];exact nL nm 4 least most _ to role must fixed de we v w1 hv
 clear hv;go_enter Tryz.func173,Tryz.ntmps173
 go_wp2_with fail
 refine(ry _ _ _ _ _ _ _ _ _ _ _).mono ?_;rintro e w1 ⟨rfl,bj⟩;have aA:=aa (ab br _) bj;clear bj;go_wp2_with fail
 refine(HX.out _ aA).mono ?_;rintro e w2 ⟨rfl,aQ⟩;have cq:=aa aA aQ;go_wp2;go_ret;exact⟨rfl,cq⟩
theorem tK (nm:ByteArray) (kind least most:Int) (vs:Value) (to:ByteArray) (role:Int) (must fixed:Bool) (de we v:ByteArray) (ss:List ByteArray) (w:World)
  (h1:(kind==1)=false) (h2:(kind==2)=false) (h3:(kind==3)=false) (h4:(kind==4)=false):
  Calls Tryz.prog 173 #[.agg #[.string nm,.int .i64 kind,.int .i64 least,.int .i64 most,vs,.string to,.int .i64 role,.bool must,.bool fixed,.string de,.string we],.string v] w
   fun e w'=>e=.returned (.bool (Pl.fits kind least most ss v))∧Bel w w':=by
 have HF:Hid (Pl.fits kind least most ss v=false):=by
  show Pl.fits kind least most ss v=_;simp only[beq_eq_false_iff_ne,ne_eq]at h1 h2 h3 h4;simp[Pl.fits,h1,h2,h3,h4]
 have HX:=hid fun (W:World)=>rH nm kind least most vs to role must fixed de we W h1 h2 h3 h4;clear h1 h2 h3 h4;go_enter Tryz.func173,Tryz.ntmps173
 go_wp2_with fail
 refine(HX.out _).mono ?_;rintro e w1 ⟨rfl,bj⟩;have aA:=aa (ab br _) bj;clear bj;go_wp2;go_ret;exact⟨Pl.ae HF.out.symm,aA⟩
theorem lE (nm:ByteArray) (kind least most:Int) (b off cap:Nat) (to:ByteArray) (role:Int) (must fixed:Bool) (de we v:ByteArray) (ss:List ByteArray) (w:World)
  (hv:v.size≤maxLen) (hb:b<w.heap.size) (hl:ss.length≤maxLen) (hc:∀ i,i<ss.length→w.cell? ⟨b,off+i,none⟩=some (.string (ss.getD i ByteArray.empty))):
  Calls Tryz.prog 173 #[.agg #[.string nm,.int .i64 kind,.int .i64 least,.int .i64 most,.slice (some ⟨b,off,none⟩) ss.length cap,.string to,.int .i64 role,.bool must,.bool fixed,.string de,.string we],.string v] w
   fun e w'=>e=.returned (.bool (Pl.fits kind least most ss v))∧Bel w w':=by
 by_cases h1:kind=1
 ·subst h1;exact tt nm least most b off cap to role must fixed de we v ss w hv
 by_cases h2:kind=2
 ·subst h2;exact uc nm least most b off cap to role must fixed de we v ss w hb hl hc
 by_cases h3:kind=3
 ·subst h3;exact td nm least most b off cap to role must fixed de we v ss w hv
 by_cases h4:kind=4
 ·subst h4;exact tM nm least most b off cap to role must fixed de we v ss w hv
 exact tK nm kind least most _ to role must fixed de we v ss w (by simp[h1]) (by simp[h2]) (by simp[h3]) (by simp[h4])
end Go.Proofs.YtbiokpmdghmgcaaGreat
namespace Go.Proofs.YtbiokpmdghmgcaaGreat
set_option maxHeartbeats 40000000
open Go.RowKit Go.Deep
theorem fQ (B:Nat) (ss:List Shp) (k:ByteArray) (w:World) (h:bd w B ss):
  Calls Tryz.prog 124 #[.slice (some ⟨B,0,none⟩) ss.length ss.length,.string k] w fun e w'=>e=.returned (.int .i64 (if aB ss k<ss.length then (aB ss k:Int) else -1))∧w=w':=by
 have hl:=h.len;obtain⟨r,hr⟩:∃ r:Int,r=(if aB ss k<ss.length then (aB ss k:Int) else -1):=⟨_,rfl⟩
 have HR:=hid hr;rw[← hr];clear hr;go_enter Tryz.func124,Tryz.ntmps124
 go_wp2;go_loop [5] (fun i=>∃ q:Nat,q≤ss.length∧i=.int .i64 q∧q≤aB ss k) (fun i=>ss.length - (intOf i).toNat)
 case atStart=>exact⟨0,nz,rfl,nz⟩
 case round=>
  obtain⟨q,hq,rfl,iH⟩:=hrel;have HN:=hid iH;clear iH;by_cases aw:q<ss.length
  ·obtain⟨b,_,_,_,_,c0,c1,_⟩:=h.at_ q aw;obtain⟨s,hs⟩:∃ s,s=ss.getD q Shp.none:=⟨_,rfl⟩
   rw[← hs]at c0 c1;cases ht:(s.kind.toList==k.toList)
   ·have HM:=hid (j4 ss k q aw HN.out (by rw[← hs];exact ht));clear hs h;go_wp2;go_round
    case rel=>exact⟨q+1,by omega,by go_num,HM.out⟩
    case measure=>simp[intOf];omega
   ·have HM:=hid (k7 ss k q aw HN.out (by rw[← hs];exact ht));clear hs h;go_wp2;go_ret;exact⟨Pl.aS (by rw[HR.out,HM.out,if_pos aw]),rfl⟩
  ·clear h;go_wp2;go_ret;exact⟨Pl.aS (by rw[HR.out,if_neg (by have:=HN.out;omega)]),rfl⟩
theorem cA (s:ByteArray) (w:World) (hs:s.size≤maxLen):
  Calls Tryz.prog 68 #[.string s] w fun e w'=>e=.returned (.bool (Pl.aq s))∧w'=w:=(aH s w hs).mono fun _ _ h=>⟨h.1,h.2.symm⟩
theorem hH {ss:List ByteArray} {k:Nat} (hk:k<ss.length) (h:Pl.ig ss k=false):Pl.asc ss=false:=Pl.gd _ _ k hk h
theorem lH {ss:List ByteArray} {k:Nat} (h:Pl.pS ss k=true) (ha:Pl.ig ss k=true):Pl.pS ss (k+1)=true:=by
 unfold Pl.pS at h ⊢;rw[Pl.g7,h,ha];rfl
theorem mu (b cap:Nat) (ss:List ByteArray) (w:World) (hl:ss.length≤1048576) (hb:b<w.heap.size) (hs:∀ i,i<ss.length→(ss.getD i ByteArray.empty).size≤maxLen)
  (hc:∀ i,i<ss.length→w.cell? ⟨b,0+i,none⟩=some (.string (ss.getD i ByteArray.empty))):
  Calls Tryz.prog 119 #[.slice (some ⟨b,0,none⟩) ss.length cap] w fun e w'=>e=.returned (.bool (Pl.asc ss))∧Bel w w':=by
 go_enter Tryz.func119,Tryz.ntmps119
 go_wp2;go_loopw [3] (fun i wr=>∃ k:Nat,k≤ss.length∧i=.int .i64 k∧Pl.pS ss k=true∧Bel w wr) (fun i _=>ss.length - (intOf i).toNat)
 case atStart=>exact⟨0,nz,rfl,rfl,br⟩
 case round=>
  obtain⟨k,hk,rfl,av,hW⟩:=hrel;have HA:=hid av;clear av;by_cases aw:k<ss.length
  ·obtain⟨s,jN⟩:∃ s,s=ss.getD k ByteArray.empty:=⟨_,rfl⟩
   have vL:wr.cell? ⟨b,k,none⟩=some (.string s):=by rw[jN,hW.cell (p:=⟨b,k,none⟩) hb];simpa using hc k aw
   have HX:Hid (s.size≤maxLen):=by show s.size≤maxLen;rw[jN];exact hs k aw
   by_cases h0:k=0
   ·subst h0;have HT:Hid (Pl.ig ss 0=Pl.aq s):=by show Pl.ig ss 0=Pl.aq s;rw[jN];simp[Pl.ig]
    clear hc hs jN;cases hn:Pl.aq s
    ·have HF:=hid (hH aw (by rw[HT.out,hn]));go_wp2_with fail
     go_quiet ((go_at_call 68;exact Calls.quiet_of_same (cA _ _ HX.out)))
     go_wp2;go_ret;exact⟨Pl.ae HF.out.symm,al hW _⟩
    ·have HF:=hid (lH HA.out (by rw[HT.out,hn]));go_wp2_with fail
     go_quiet ((go_at_call 68;exact Calls.quiet_of_same (cA _ _ HX.out)))
     go_wp2;go_roundw
     case rel=>exact⟨1,by omega,by go_num,HF.out,al hW _⟩
     case measure=>simp[intOf];omega
   ·obtain⟨p,sU⟩:∃ p,p=ss.getD (k - 1) ByteArray.empty:=⟨_,rfl⟩
    obtain⟨m,rfl⟩:∃ m,k=m+1:=⟨k - 1,by omega⟩
    have mx:wr.cell? ⟨b,m,none⟩=some (.string p):=by rw[sU,hW.cell (p:=⟨b,m,none⟩) hb];simpa using hc m (by omega)
    have HT:Hid (Pl.ig ss (m+1)=(Pl.aq s&&Op.bytesLess p.toList s.toList)):=by show Pl.ig ss (m+1)=_;rw[jN,sU];simp[Pl.ig,Pl.less]
    clear hc hs jN sU h0;cases hn:Pl.aq s
    ·have HF:=hid (hH aw (by rw[HT.out,hn];rfl));go_wp2_with fail
     go_quiet ((go_at_call 68;exact Calls.quiet_of_same (cA _ _ HX.out)))
     go_wp2;go_ret;exact⟨Pl.ae HF.out.symm,al hW _⟩
    ·cases hq:Op.bytesLess p.toList s.toList
     ·have HF:=hid (hH aw (by rw[HT.out,hn,hq];rfl));go_wp2_with fail
      go_quiet ((go_at_call 68;exact Calls.quiet_of_same (cA _ _ HX.out)))
      go_wp2;go_ret;exact⟨Pl.ae HF.out.symm,al hW _⟩
     ·have HF:=hid (lH HA.out (by rw[HT.out,hn,hq];rfl));go_wp2_with fail
      go_quiet ((go_at_call 68;exact Calls.quiet_of_same (cA _ _ HX.out)))
      go_wp2;go_roundw
      case rel=>exact⟨m+1+1,by omega,by go_num,HF.out,al hW _⟩
      case measure=>simp[intOf];omega
  ·have HF:Hid (Pl.asc ss=true):=by
    obtain rfl:k=ss.length:=by omega
    exact HA.out
   go_wp2;go_ret;exact⟨Pl.ae HF.out.symm,hW⟩
theorem ve (b cap:Nat) (ss:List ByteArray) (w:World) (hl:ss.length≤1048576) (hs:∀ i,i<ss.length→(ss.getD i ByteArray.empty).size≤maxLen)
  (hc:∀ i,i<ss.length→w.cell? ⟨b,0+i,none⟩=some (.string (ss.getD i ByteArray.empty))):
  Calls Tryz.prog 205 #[.slice (some ⟨b,0,none⟩) ss.length cap] w fun e w'=>e=.returned (.bool (Pl.asc ss))∧w=w':=by
 go_enter Tryz.func205,Tryz.ntmps205
 go_wp2;go_loop [7] (fun i=>∃ k:Nat,k≤ss.length∧i=.int .i64 k∧Pl.pS ss k=true) (fun i=>ss.length - (intOf i).toNat)
 case atStart=>exact⟨0,nz,rfl,rfl⟩
 case round=>
  obtain⟨k,hk,rfl,av⟩:=hrel;have HA:=hid av;clear av;by_cases aw:k<ss.length
  ·obtain⟨s,jN⟩:∃ s,s=ss.getD k ByteArray.empty:=⟨_,rfl⟩
   have vL:w.cell? ⟨b,k,none⟩=some (.string s):=by rw[jN];simpa using hc k aw
   have HX:Hid (s.size≤maxLen):=by show s.size≤maxLen;rw[jN];exact hs k aw
   by_cases h0:k=0
   ·subst h0;have HT:Hid (Pl.ig ss 0=Pl.aq s):=by show Pl.ig ss 0=Pl.aq s;rw[jN];simp[Pl.ig]
    clear hc hs jN;cases hn:Pl.aq s
    ·have HF:=hid (hH aw (by rw[HT.out,hn]));go_wp2_with (go_at_call 89;refine(aK _ _ HX.out).mono ?_;rintro e w' ⟨rfl,rfl⟩)
     go_ret;exact⟨Pl.ae HF.out.symm,rfl⟩
    ·have HF:=hid (lH HA.out (by rw[HT.out,hn]));go_wp2_with (go_at_call 89;refine(aK _ _ HX.out).mono ?_;rintro e w' ⟨rfl,rfl⟩)
     go_round
     case rel=>exact⟨1,by omega,by go_num,HF.out⟩
     case measure=>simp[intOf];omega
   ·obtain⟨p,sU⟩:∃ p,p=ss.getD (k - 1) ByteArray.empty:=⟨_,rfl⟩
    obtain⟨m,rfl⟩:∃ m,k=m+1:=⟨k - 1,by omega⟩
    have mx:w.cell? ⟨b,m,none⟩=some (.string p):=by rw[sU];simpa using hc m (by omega)
    have HT:Hid (Pl.ig ss (m+1)=(Pl.aq s&&Op.bytesLess p.toList s.toList)):=by show Pl.ig ss (m+1)=_;rw[jN,sU];simp[Pl.ig,Pl.less]
    clear hc hs jN sU h0;cases hn:Pl.aq s
    ·have HF:=hid (hH aw (by rw[HT.out,hn];rfl));go_wp2_with (go_at_call 89;refine(aK _ _ HX.out).mono ?_;rintro e w' ⟨rfl,rfl⟩)
     go_ret;exact⟨Pl.ae HF.out.symm,rfl⟩
    ·cases hq:Op.bytesLess p.toList s.toList
     ·have HF:=hid (hH aw (by rw[HT.out,hn,hq];rfl));go_wp2_with (go_at_call 89;refine(aK _ _ HX.out).mono ?_;rintro e w' ⟨rfl,rfl⟩)
      go_ret;exact⟨Pl.ae HF.out.symm,rfl⟩
     ·have HF:=hid (lH HA.out (by rw[HT.out,hn,hq];rfl));go_wp2_with (go_at_call 89;refine(aK _ _ HX.out).mono ?_;rintro e w' ⟨rfl,rfl⟩)
      go_round
      case rel=>exact⟨m+1+1,by omega,by go_num,HF.out⟩
      case measure=>simp[intOf];omega
  ·have HF:Hid (Pl.asc ss=true):=by
    obtain rfl:k=ss.length:=by omega
    exact HA.out
   go_wp2;go_ret;exact⟨Pl.ae HF.out.symm,rfl⟩
def qu (ss:List Shp) (k:ByteArray) (w:World) (kd:ByteArray) (v:Value):Prop:=
 aJ ss k=true→kd=(ss.getD (aB ss k) Shp.none).kind∧∃ b,v=.slice (some ⟨b,0,none⟩) (ss.getD (aB ss k) Shp.none).fields.length (ss.getD (aB ss k) Shp.none).fields.length∧b<w.heap.size∧
  ∀ i,i<(ss.getD (aB ss k) Shp.none).fields.length→bp w b (i*11) ((ss.getD (aB ss k) Shp.none).fields.getD i Fld.none)
theorem mH (B:Nat) (ss:List Shp) (k:ByteArray) (w:World) (h:bd w B ss):
  Calls Tryz.prog 132 #[.slice (some ⟨B,0,none⟩) ss.length ss.length,.string k] w fun e w'=>∃ kd a n c,e=.returned (.tuple #[.agg #[.string kd,.slice a n c],.bool (aJ ss k)])∧qu ss k w kd (.slice a n c)∧Bel w w':=by
 have hl:=h.len;have HH:=hid h;clear h;go_enter Tryz.func132,Tryz.ntmps132
 go_wp2;go_loopw [10] (fun i wr=>∃ q:Nat,q≤ss.length∧i=.int .i64 q∧q≤aB ss k∧Bel w wr∧ai wr w.heap.size 134 2) (fun i _=>ss.length - (intOf i).toNat)
 case atStart=>exact⟨0,nz,rfl,nz,ab br _,ai.alloc w _ 134 _ rfl⟩
 case round=>
  obtain⟨q,hq,rfl,iH,hW,hO⟩:=hrel;have HN:=hid iH;have HO:=hid hO;have hF:=hO.frozen;obtain⟨x0,o0⟩:=hO.cell 0 (by omega);obtain⟨x1,o1⟩:=hO.cell 1 (by omega);have hz:=hO.lt;clear iH hO;by_cases aw:q<ss.length
  ·obtain⟨b,_,gK,_,_,d0,d1,hf⟩:=HH.out.at_ q aw;have c0:=(hW.cell (p:=⟨B,q*2,none⟩) HH.out.lt).trans d0;have c1:=(hW.cell (p:=⟨B,q*2+1,none⟩) HH.out.lt).trans d1;clear d0 d1;obtain⟨s,hs⟩:∃ s,s=ss.getD q Shp.none:=⟨_,rfl⟩
   rw[← hs]at c0 c1 hf;cases ht:(s.kind.toList==k.toList)
   ·have HM:=hid (j4 ss k q aw HN.out (by rw[← hs];exact ht));clear hs hf gK;go_wp2;go_roundw
    case rel=>exact⟨q+1,by omega,by go_num,HM.out,ab hW _,HO.out.later (ab br _)⟩
    case measure=>simp[intOf];omega
   ·have HM:=hid (k7 ss k q aw HN.out (by rw[← hs];exact ht));have HS:=hid (And.intro hs (And.intro gK hf));have HK:Hid (aJ ss k=true):=by show aJ ss k=true;simp[aJ,HM.out,aw]
    clear hs hf gK;go_wp2;have e0:∀ (x:Value) (o:Obj),(((wr.setCell ⟨w.heap.size,0,none⟩ (.string s.kind)).setCell ⟨w.heap.size,1,none⟩ x).alloc o).cell? ⟨w.heap.size,0,none⟩=some (.string s.kind):=by
     intro x o;have h1:=World.cell?_alloc_past (w:=(wr.setCell ⟨w.heap.size,0,none⟩ (.string s.kind)).setCell ⟨w.heap.size,1,none⟩ x) o w.heap.size 0 (by rw[bc,bc];exact hz);rw[h1,aF _ _ _ _ _ _ (by omega)];exact eJ HO.out 0 (by omega) _
    have e1:∀ (x:Value) (o:Obj),(((wr.setCell ⟨w.heap.size,0,none⟩ (.string s.kind)).setCell ⟨w.heap.size,1,none⟩ x).alloc o).cell? ⟨w.heap.size,1,none⟩=some x:=by
     intro x o;have h1:=World.cell?_alloc_past (w:=(wr.setCell ⟨w.heap.size,0,none⟩ (.string s.kind)).setCell ⟨w.heap.size,1,none⟩ x) o w.heap.size 1 (by rw[bc,bc];exact hz);rw[h1];exact eJ (HO.out.setCell 0 _) 1 (by omega) _
    refine bodyPost_ret (v:=.tuple #[.agg #[.string s.kind,.slice (some ⟨b,0,none⟩) s.fields.length s.fields.length],.bool true]) (by simp[results,Tryz.results132,go_sem,e0,e1]) rfl ⟨_,_,_,_,by rw[HK.out], ?_, ?_⟩
    ·intro _;rw[HM.out,← HS.out.1];exact⟨rfl,b,rfl,HS.out.2.1,HS.out.2.2⟩
    ·exact ab ((hW.setCell (p:=⟨w.heap.size,0,none⟩) nr _).setCell (p:=⟨w.heap.size,1,none⟩) nr _) _
  ·have HK:Hid (aJ ss k=false):=by have:=HN.out;show aJ ss k=false;simp[aJ];omega
   go_wp2;have e0:∀ (x y:Value),((wr.setCell ⟨w.heap.size,0,none⟩ y).setCell ⟨w.heap.size,1,none⟩ x).cell? ⟨w.heap.size,0,none⟩=some y:=by
    intro x y;rw[aF _ _ _ _ _ _ (by omega)];exact eJ HO.out 0 (by omega) _
   have e1:∀ (x y:Value),((wr.setCell ⟨w.heap.size,0,none⟩ y).setCell ⟨w.heap.size,1,none⟩ x).cell? ⟨w.heap.size,1,none⟩=some x:=by
    intro x y;exact eJ (HO.out.setCell 0 _) 1 (by omega) _
   refine bodyPost_ret (v:=.tuple #[.agg #[.string ⟨#[]⟩,.slice none 0 0],.bool false]) (by simp[results,Tryz.results132,go_sem,e0,e1]) rfl ⟨_,_,_,_,by rw[HK.out], ?_, ?_⟩
   ·intro h;rw[HK.out]at h;cases h
   ·exact(hW.setCell (p:=⟨w.heap.size,0,none⟩) nr _).setCell (p:=⟨w.heap.size,1,none⟩) nr _
theorem vT (f:Fld) (b:Nat) (v:Value) (ss:List Shp) (w:World) (hk:f.kind=1) (hw:f.we.size≤maxLen):
  Calls Tryz.prog 237 #[.agg #[.string f.nm,.int .i64 1,.int .i64 f.least,.int .i64 f.most,.slice (some ⟨b,0,none⟩) f.words.length f.words.length,.string f.to,.int .i64 f.role,.bool f.must,.bool f.fixed,.string f.de,.string f.we],v] w fun e w'=>e=.returned (.bool (aC ss f))∧Bel w w':=by
 have HB:Hid (aC ss f=(decide (0≤f.least)&&decide (f.least≤f.most)&&decide (f.most≤1000000)&&(f.we.toList.isEmpty||Pl.aq f.we))):=by show aC ss f=_;simp[aC,hk,Pl.aE]
 clear hk;go_enter Tryz.func237,Tryz.ntmps237
 go_wp2_with (go_at_call 89;refine(aK _ _ hw).mono ?_;rintro e w' ⟨rfl,rfl⟩)
 all_goals go_ret
 all_goals refine⟨Pl.ae ?_,ab br _⟩
 all_goals rw[HB.out]
 all_goals clear HB
 all_goals go_light
 all_goals first|(simp_all;done)|(simp_all;omega)|(rw[Bool.eq_iff_iff];simp_all;done)|(rw[Bool.eq_iff_iff];simp_all;omega)
theorem wm (f:Fld) (b:Nat) (v:Value) (ss:List Shp) (w:World) (hk:f.kind=3):
  Calls Tryz.prog 245 #[.agg #[.string f.nm,.int .i64 3,.int .i64 f.least,.int .i64 f.most,.slice (some ⟨b,0,none⟩) f.words.length f.words.length,.string f.to,.int .i64 f.role,.bool f.must,.bool f.fixed,.string f.de,.string f.we],v] w fun e w'=>e=.returned (.bool (aC ss f))∧Bel w w':=by
 have HB:Hid (aC ss f=(decide (1≤f.least)&&decide (f.least≤f.most)&&decide (f.most≤40))):=by show aC ss f=_;simp[aC,hk]
 clear hk;go_enter Tryz.func245,Tryz.ntmps245
 go_wp2
 all_goals go_ret
 all_goals refine⟨Pl.ae ?_,ab br _⟩
 all_goals rw[HB.out]
 all_goals clear HB
 all_goals go_light
 all_goals first|(simp_all;done)|(simp_all;omega)|(rw[Bool.eq_iff_iff];simp_all;done)|(rw[Bool.eq_iff_iff];simp_all;omega)
theorem xA (f:Fld) (b:Nat) (v:Value) (ss:List Shp) (w:World) (hk:f.kind=2) (hs:f.small) (hb:b<w.heap.size) (hz:∀ i,i<f.words.length→(f.words.getD i ByteArray.empty).size≤maxLen)
  (hc:∀ i,i<f.words.length→w.cell? ⟨b,0+i,none⟩=some (.string (f.words.getD i ByteArray.empty))):
  Calls Tryz.prog 240 #[.agg #[.string f.nm,.int .i64 2,.int .i64 f.least,.int .i64 f.most,.slice (some ⟨b,0,none⟩) f.words.length f.words.length,.string f.to,.int .i64 f.role,.bool f.must,.bool f.fixed,.string f.de,.string f.we],v] w fun e w'=>e=.returned (.bool (aC ss f))∧Bel w w':=by
 have HB:Hid (aC ss f=(decide (1≤f.words.length)&&decide (f.words.length≤6)&&Pl.asc f.words)):=by show aC ss f=_;simp[aC,hk]
 have xV:f.words.length≤1048576:=hs;have HX:Hid (∀ o,Calls Tryz.prog 205 #[.slice (some ⟨b,0,none⟩) f.words.length f.words.length] (w.alloc o) fun e w'=>e=.returned (.bool (Pl.asc f.words))∧(w.alloc o)=w'):=by
  intro o;refine ve b _ f.words _ hs hz fun i hi=> ?_;rw[← hc i hi];exact(ab br o:Bel w _).cell (p:=⟨b,0+i,none⟩) hb
 clear hk hs hz hc;by_cases h1:1≤f.words.length
 ·by_cases h2:f.words.length≤6
  ·have HF:Hid (aC ss f=Pl.asc f.words):=by show aC ss f=_;rw[HB.out];simp[h1,h2]
   go_enter Tryz.func240,Tryz.ntmps240
   go_wp2_with fail
   refine(HX.out _).mono ?_;rintro e w' ⟨rfl,rfl⟩;go_wp2;go_ret;exact⟨Pl.ae HF.out.symm,ab br _⟩
  ·have HF:Hid (aC ss f=false):=by show aC ss f=_;rw[HB.out];simp[h2]
   go_enter Tryz.func240,Tryz.ntmps240
   go_wp2;go_ret;exact⟨Pl.ae HF.out.symm,ab br _⟩
 ·have HF:Hid (aC ss f=false):=by show aC ss f=_;rw[HB.out];simp[h1]
  go_enter Tryz.func240,Tryz.ntmps240
  go_wp2;go_ret;exact⟨Pl.ae HF.out.symm,ab br _⟩
theorem wM (f:Fld) (b B:Nat) (ss:List Shp) (w:World) (hk:f.kind=4) (h:bd w B ss):
  Calls Tryz.prog 248 #[.agg #[.string f.nm,.int .i64 4,.int .i64 f.least,.int .i64 f.most,.slice (some ⟨b,0,none⟩) f.words.length f.words.length,.string f.to,.int .i64 f.role,.bool f.must,.bool f.fixed,.string f.de,.string f.we],.slice (some ⟨B,0,none⟩) ss.length ss.length] w fun e w'=>e=.returned (.bool (aC ss f))∧Bel w w':=by
 have HB:Hid (aC ss f=(aJ ss f.to&&(decide (1≤f.role)&&decide (f.role≤3)&&f.de.toList.isEmpty&&(!decide (f.role=2)|| !f.must)))):=by show aC ss f=_;simp[aC,hk,Pl.aE,Bool.and_assoc]
 have HX:Hid (∀ o,Calls Tryz.prog 132 #[.slice (some ⟨B,0,none⟩) ss.length ss.length,.string f.to] (w.alloc o) fun e w'=>∃ kd a n c,e=.returned (.tuple #[.agg #[.string kd,.slice a n c],.bool (aJ ss f.to)])∧qu ss f.to (w.alloc o) kd (.slice a n c)∧Below (w.alloc o).heap.size (w.alloc o) w'):=
  fun o=>mH B ss f.to (w.alloc o) (h.later (ab br o))
 clear hk h;go_enter Tryz.func248,Tryz.ntmps248
 go_wp2_with fail
 refine(HX.out _).mono ?_;rintro e w2 ⟨kd,a2,n2,c2,rfl,_,aA⟩;have bF:=aa (ab (Below.refl w.heap.size w) (.cells #[.string f.nm,.int .i64 4,.int .i64 f.least,.int .i64 f.most,.slice (some ⟨b,0,none⟩) f.words.length f.words.length,.string f.to,.int .i64 f.role,.bool f.must,.bool f.fixed,.string f.de,.string f.we] 272)) aA;have k0:∀ o,w2.cell? ⟨w.heap.size,o,none⟩=(w.alloc (.cells #[.string f.nm,.int .i64 4,.int .i64 f.least,.int .i64 f.most,.slice (some ⟨b,0,none⟩) f.words.length f.words.length,.string f.to,.int .i64 f.role,.bool f.must,.bool f.fixed,.string f.de,.string f.we] 272)).cell? ⟨w.heap.size,o,none⟩:=fun o=>aA.cell (p:=⟨w.heap.size,o,none⟩) (by simp);have gR:w.heap.size<w2.heap.size:=by have:=aA.size;simp at this;omega
 clear aA HX;cases hh:aJ ss f.to
 ·have HF:Hid (aC ss f=false):=by show aC ss f=_;rw[HB.out,hh];rfl
  go_wp2;go_ret;exact⟨Pl.ae HF.out.symm,ab bF _⟩
 ·have HF:Hid (aC ss f=(decide (1≤f.role)&&decide (f.role≤3)&&f.de.toList.isEmpty&&(!decide (f.role=2)|| !f.must))):=by show aC ss f=_;rw[HB.out,hh];rfl
  clear HB;go_wp2
  all_goals go_ret
  all_goals refine⟨Pl.ae ?_,ab bF _⟩
  all_goals rw[HF.out]
  all_goals clear HF bF k0
  all_goals go_light
  all_goals first|(simp_all;done)|(simp_all;omega)|(rw[Bool.eq_iff_iff];simp_all;done)|(rename_i _ _ xW;rcases xW with xW|xW;(exfalso;omega);(simp only[Bool.not_eq_true']at xW;rw[xW];simp))
theorem kp {α:Type} (l:List α):l.isEmpty=decide (l.length=0):=by cases l<;>simp
theorem zo (f:Fld) (b:Nat) (w:World) (hs:f.small) (hk:f.kind=1):
  Calls Tryz.prog 194 #[.agg #[.string f.nm,.int .i64 1,.int .i64 f.least,.int .i64 f.most,.slice (some ⟨b,0,none⟩) f.words.length f.words.length,.string f.to,.int .i64 f.role,.bool f.must,.bool f.fixed,.string f.de,.string f.we]] w fun e w'=>e=.returned (.bool (bD f))∧Bel w w':=by
 have xV:f.words.length≤1048576:=hs;have HB:Hid (bD f=(decide (f.words.length=0)&&f.to.toList.isEmpty&&decide (f.role=0))):=by show bD f=_;simp[bD,hk,kp f.words,Pl.aE]
 clear hs hk;cases hd:decide (f.words.length=0)
 all_goals
  have HD:=hid hd;simp only[decide_eq_false_iff_not,decide_eq_true_eq]at hd;go_enter Tryz.func194,Tryz.ntmps194
  go_wp2
  all_goals go_ret
  all_goals refine⟨Pl.ae ?_,ab br _⟩
  all_goals rw[HB.out,HD.out]
  all_goals clear HB HD
  all_goals go_light
  all_goals first|(simp_all;done)|(simp_all;omega)|(rw[Bool.eq_iff_iff];simp_all;done)|(rw[Bool.eq_iff_iff];simp_all;omega)
theorem El (f:Fld) (b:Nat) (w:World) (hs:f.small) (hk:f.kind=1):
  Calls Tryz.prog 236 #[.agg #[.string f.nm,.int .i64 1,.int .i64 f.least,.int .i64 f.most,.slice (some ⟨b,0,none⟩) f.words.length f.words.length,.string f.to,.int .i64 f.role,.bool f.must,.bool f.fixed,.string f.de,.string f.we]] w fun e w'=>e=.returned (.bool (bD f))∧Bel w w':=by
 have xV:f.words.length≤1048576:=hs;have HB:Hid (bD f=(decide (f.words.length=0)&&f.to.toList.isEmpty&&decide (f.role=0))):=by show bD f=_;simp[bD,hk,kp f.words,Pl.aE]
 clear hs hk;cases hd:decide (f.words.length=0)
 all_goals
  have HD:=hid hd;simp only[decide_eq_false_iff_not,decide_eq_true_eq]at hd;go_enter Tryz.func236,Tryz.ntmps236
  go_wp2
  all_goals go_ret
  all_goals refine⟨Pl.ae ?_,ab br _⟩
  all_goals rw[HB.out,HD.out]
  all_goals clear HB HD
  all_goals go_light
  all_goals first|(simp_all;done)|(simp_all;omega)|(rw[Bool.eq_iff_iff];simp_all;done)|(rw[Bool.eq_iff_iff];simp_all;omega)
theorem Am (f:Fld) (b:Nat) (w:World) (hs:f.small) (hk:f.kind=2):
  Calls Tryz.prog 194 #[.agg #[.string f.nm,.int .i64 2,.int .i64 f.least,.int .i64 f.most,.slice (some ⟨b,0,none⟩) f.words.length f.words.length,.string f.to,.int .i64 f.role,.bool f.must,.bool f.fixed,.string f.de,.string f.we]] w fun e w'=>e=.returned (.bool (bD f))∧Bel w w':=by
 have xV:f.words.length≤1048576:=hs;have HB:Hid (bD f=(decide (f.least=0)&&decide (f.most=0)&&f.to.toList.isEmpty&&decide (f.role=0)&&f.we.toList.isEmpty)):=by show bD f=_;simp[bD,hk,Pl.aE]
 clear hs hk;go_enter Tryz.func194,Tryz.ntmps194
 go_wp2
 all_goals go_ret
 all_goals refine⟨Pl.ae ?_,ab br _⟩
 all_goals rw[HB.out]
 all_goals clear HB
 all_goals go_light
 all_goals first|(simp_all;done)|(simp_all;omega)|(rw[Bool.eq_iff_iff];simp_all;done)|(rw[Bool.eq_iff_iff];simp_all;omega)
theorem Ef (f:Fld) (b:Nat) (w:World) (hs:f.small) (hk:f.kind=2):
  Calls Tryz.prog 239 #[.agg #[.string f.nm,.int .i64 2,.int .i64 f.least,.int .i64 f.most,.slice (some ⟨b,0,none⟩) f.words.length f.words.length,.string f.to,.int .i64 f.role,.bool f.must,.bool f.fixed,.string f.de,.string f.we]] w fun e w'=>e=.returned (.bool (bD f))∧Bel w w':=by
 have xV:f.words.length≤1048576:=hs;have HB:Hid (bD f=(decide (f.least=0)&&decide (f.most=0)&&f.to.toList.isEmpty&&decide (f.role=0)&&f.we.toList.isEmpty)):=by show bD f=_;simp[bD,hk,Pl.aE]
 clear hs hk;go_enter Tryz.func239,Tryz.ntmps239
 go_wp2
 all_goals go_ret
 all_goals refine⟨Pl.ae ?_,ab br _⟩
 all_goals rw[HB.out]
 all_goals clear HB
 all_goals go_light
 all_goals first|(simp_all;done)|(simp_all;omega)|(rw[Bool.eq_iff_iff];simp_all;done)|(rw[Bool.eq_iff_iff];simp_all;omega)
theorem yx (f:Fld) (b:Nat) (w:World) (hs:f.small) (hk:f.kind=3):
  Calls Tryz.prog 194 #[.agg #[.string f.nm,.int .i64 3,.int .i64 f.least,.int .i64 f.most,.slice (some ⟨b,0,none⟩) f.words.length f.words.length,.string f.to,.int .i64 f.role,.bool f.must,.bool f.fixed,.string f.de,.string f.we]] w fun e w'=>e=.returned (.bool (bD f))∧Bel w w':=by
 have xV:f.words.length≤1048576:=hs;have HB:Hid (bD f=(decide (f.words.length=0)&&f.to.toList.isEmpty&&decide (f.role=0)&&f.we.toList.isEmpty)):=by show bD f=_;simp[bD,hk,kp f.words,Pl.aE]
 clear hs hk;cases hd:decide (f.words.length=0)
 all_goals
  have HD:=hid hd;simp only[decide_eq_false_iff_not,decide_eq_true_eq]at hd;go_enter Tryz.func194,Tryz.ntmps194
  go_wp2
  all_goals go_ret
  all_goals refine⟨Pl.ae ?_,ab br _⟩
  all_goals rw[HB.out,HD.out]
  all_goals clear HB HD
  all_goals go_light
  all_goals first|(simp_all;done)|(simp_all;omega)|(rw[Bool.eq_iff_iff];simp_all;done)|(rw[Bool.eq_iff_iff];simp_all;omega)
theorem En (f:Fld) (b:Nat) (w:World) (hs:f.small) (hk:f.kind=3):
  Calls Tryz.prog 244 #[.agg #[.string f.nm,.int .i64 3,.int .i64 f.least,.int .i64 f.most,.slice (some ⟨b,0,none⟩) f.words.length f.words.length,.string f.to,.int .i64 f.role,.bool f.must,.bool f.fixed,.string f.de,.string f.we]] w fun e w'=>e=.returned (.bool (bD f))∧Bel w w':=by
 have xV:f.words.length≤1048576:=hs;have HB:Hid (bD f=(decide (f.words.length=0)&&f.to.toList.isEmpty&&decide (f.role=0)&&f.we.toList.isEmpty)):=by show bD f=_;simp[bD,hk,kp f.words,Pl.aE]
 clear hs hk;cases hd:decide (f.words.length=0)
 all_goals
  have HD:=hid hd;simp only[decide_eq_false_iff_not,decide_eq_true_eq]at hd;go_enter Tryz.func244,Tryz.ntmps244
  go_wp2
  all_goals go_ret
  all_goals refine⟨Pl.ae ?_,ab br _⟩
  all_goals rw[HB.out,HD.out]
  all_goals clear HB HD
  all_goals go_light
  all_goals first|(simp_all;done)|(simp_all;omega)|(rw[Bool.eq_iff_iff];simp_all;done)|(rw[Bool.eq_iff_iff];simp_all;omega)
theorem Aw (f:Fld) (b:Nat) (w:World) (hs:f.small) (hk:f.kind=4):
  Calls Tryz.prog 194 #[.agg #[.string f.nm,.int .i64 4,.int .i64 f.least,.int .i64 f.most,.slice (some ⟨b,0,none⟩) f.words.length f.words.length,.string f.to,.int .i64 f.role,.bool f.must,.bool f.fixed,.string f.de,.string f.we]] w fun e w'=>e=.returned (.bool (bD f))∧Bel w w':=by
 have xV:f.words.length≤1048576:=hs;have HB:Hid (bD f=(decide (f.least=0)&&decide (f.most=0)&&decide (f.words.length=0)&&f.we.toList.isEmpty)):=by show bD f=_;simp[bD,hk,kp f.words,Pl.aE]
 clear hs hk;cases hd:decide (f.words.length=0)
 all_goals
  have HD:=hid hd;simp only[decide_eq_false_iff_not,decide_eq_true_eq]at hd;go_enter Tryz.func194,Tryz.ntmps194
  go_wp2
  all_goals go_ret
  all_goals refine⟨Pl.ae ?_,ab br _⟩
  all_goals rw[HB.out,HD.out]
  all_goals clear HB HD
  all_goals go_light
  all_goals first|(simp_all;done)|(simp_all;omega)|(rw[Bool.eq_iff_iff];simp_all;done)|(rw[Bool.eq_iff_iff];simp_all;omega)
theorem DO (f:Fld) (b:Nat) (w:World) (hs:f.small) (hk:f.kind=4):
  Calls Tryz.prog 247 #[.agg #[.string f.nm,.int .i64 4,.int .i64 f.least,.int .i64 f.most,.slice (some ⟨b,0,none⟩) f.words.length f.words.length,.string f.to,.int .i64 f.role,.bool f.must,.bool f.fixed,.string f.de,.string f.we]] w fun e w'=>e=.returned (.bool (bD f))∧Bel w w':=by
 have xV:f.words.length≤1048576:=hs;have HB:Hid (bD f=(decide (f.least=0)&&decide (f.most=0)&&decide (f.words.length=0)&&f.we.toList.isEmpty)):=by show bD f=_;simp[bD,hk,kp f.words,Pl.aE]
 clear hs hk;cases hd:decide (f.words.length=0)
 all_goals
  have HD:=hid hd;simp only[decide_eq_false_iff_not,decide_eq_true_eq]at hd;go_enter Tryz.func247,Tryz.ntmps247
  go_wp2
  all_goals go_ret
  all_goals refine⟨Pl.ae ?_,ab br _⟩
  all_goals rw[HB.out,HD.out]
  all_goals clear HB HD
  all_goals go_light
  all_goals first|(simp_all;done)|(simp_all;omega)|(rw[Bool.eq_iff_iff];simp_all;done)|(rw[Bool.eq_iff_iff];simp_all;omega)
structure eC (w:World) (b:Nat) (f:Fld):Prop where
 lt:b<w.heap.size
 small:f.small
 sized:f.sized
 sizes:∀ i,i<f.words.length→(f.words.getD i ByteArray.empty).size≤maxLen
 cells:∀ i,i<f.words.length→w.cell? ⟨b,0+i,none⟩=some (.string (f.words.getD i ByteArray.empty))
theorem eC.later {w w':World} {b:Nat} {f:Fld} (h:eC w b f) (hb:Bel w w'):eC w' b f:=
 ⟨lo h.lt hb.size,h.small,h.sized,h.sizes,fun i hi=>(hb.cell (p:=⟨b,0+i,none⟩) h.lt).trans (h.cells i hi)⟩
theorem tr (nm:ByteArray) (kind least most:Int) (vs:Value) (to:ByteArray) (role:Int) (must fixed:Bool) (de we:ByteArray) (w:World):(method 393 268 (.agg #[.string nm,.int .i64 kind,.int .i64 least,.int .i64 most,vs,.string to,.int .i64 role,.bool must,.bool fixed,.string de,.string we]) "loop.example/wharfdesk/impl.bare").run Tryz.prog w=.ok (236,.agg #[.string nm,.int .i64 kind,.int .i64 least,.int .i64 most,vs,.string to,.int .i64 role,.bool must,.bool fixed,.string de,.string we]) w:=by kernel_rfl
theorem rq (nm:ByteArray) (kind least most:Int) (vs:Value) (to:ByteArray) (role:Int) (must fixed:Bool) (de we:ByteArray) (w:World):(method 393 268 (.agg #[.string nm,.int .i64 kind,.int .i64 least,.int .i64 most,vs,.string to,.int .i64 role,.bool must,.bool fixed,.string de,.string we]) "loop.example/wharfdesk/impl.bounded").run Tryz.prog w=.ok (237,.agg #[.string nm,.int .i64 kind,.int .i64 least,.int .i64 most,vs,.string to,.int .i64 role,.bool must,.bool fixed,.string de,.string we]) w:=by kernel_rfl
theorem tf (nm:ByteArray) (kind least most:Int) (vs:Value) (to:ByteArray) (role:Int) (must fixed:Bool) (de we:ByteArray) (w:World):(method 393 270 (.agg #[.string nm,.int .i64 kind,.int .i64 least,.int .i64 most,vs,.string to,.int .i64 role,.bool must,.bool fixed,.string de,.string we]) "loop.example/wharfdesk/impl.bare").run Tryz.prog w=.ok (239,.agg #[.string nm,.int .i64 kind,.int .i64 least,.int .i64 most,vs,.string to,.int .i64 role,.bool must,.bool fixed,.string de,.string we]) w:=by kernel_rfl
theorem rV (nm:ByteArray) (kind least most:Int) (vs:Value) (to:ByteArray) (role:Int) (must fixed:Bool) (de we:ByteArray) (w:World):(method 393 270 (.agg #[.string nm,.int .i64 kind,.int .i64 least,.int .i64 most,vs,.string to,.int .i64 role,.bool must,.bool fixed,.string de,.string we]) "loop.example/wharfdesk/impl.bounded").run Tryz.prog w=.ok (240,.agg #[.string nm,.int .i64 kind,.int .i64 least,.int .i64 most,vs,.string to,.int .i64 role,.bool must,.bool fixed,.string de,.string we]) w:=by kernel_rfl
theorem tB (nm:ByteArray) (kind least most:Int) (vs:Value) (to:ByteArray) (role:Int) (must fixed:Bool) (de we:ByteArray) (w:World):(method 393 271 (.agg #[.string nm,.int .i64 kind,.int .i64 least,.int .i64 most,vs,.string to,.int .i64 role,.bool must,.bool fixed,.string de,.string we]) "loop.example/wharfdesk/impl.bare").run Tryz.prog w=.ok (244,.agg #[.string nm,.int .i64 kind,.int .i64 least,.int .i64 most,vs,.string to,.int .i64 role,.bool must,.bool fixed,.string de,.string we]) w:=by kernel_rfl
theorem rS (nm:ByteArray) (kind least most:Int) (vs:Value) (to:ByteArray) (role:Int) (must fixed:Bool) (de we:ByteArray) (w:World):(method 393 271 (.agg #[.string nm,.int .i64 kind,.int .i64 least,.int .i64 most,vs,.string to,.int .i64 role,.bool must,.bool fixed,.string de,.string we]) "loop.example/wharfdesk/impl.bounded").run Tryz.prog w=.ok (245,.agg #[.string nm,.int .i64 kind,.int .i64 least,.int .i64 most,vs,.string to,.int .i64 role,.bool must,.bool fixed,.string de,.string we]) w:=by kernel_rfl
theorem te (nm:ByteArray) (kind least most:Int) (vs:Value) (to:ByteArray) (role:Int) (must fixed:Bool) (de we:ByteArray) (w:World):(method 393 272 (.agg #[.string nm,.int .i64 kind,.int .i64 least,.int .i64 most,vs,.string to,.int .i64 role,.bool must,.bool fixed,.string de,.string we]) "loop.example/wharfdesk/impl.bare").run Tryz.prog w=.ok (247,.agg #[.string nm,.int .i64 kind,.int .i64 least,.int .i64 most,vs,.string to,.int .i64 role,.bool must,.bool fixed,.string de,.string we]) w:=by kernel_rfl
theorem rQ (nm:ByteArray) (kind least most:Int) (vs:Value) (to:ByteArray) (role:Int) (must fixed:Bool) (de we:ByteArray) (w:World):(method 393 272 (.agg #[.string nm,.int .i64 kind,.int .i64 least,.int .i64 most,vs,.string to,.int .i64 role,.bool must,.bool fixed,.string de,.string we]) "loop.example/wharfdesk/impl.bounded").run Tryz.prog w=.ok (248,.agg #[.string nm,.int .i64 kind,.int .i64 least,.int .i64 most,vs,.string to,.int .i64 role,.bool must,.bool fixed,.string de,.string we]) w:=by kernel_rfl
theorem uk (f:Fld) (b B:Nat) (ss:List Shp) (w:World) (hk:f.kind=1) (h:bd w B ss) (hp:eC w b f):
  Calls Tryz.prog 196 #[.slice (some ⟨B,0,none⟩) ss.length ss.length,.agg #[.string f.nm,.int .i64 1,.int .i64 f.least,.int .i64 f.most,.slice (some ⟨b,0,none⟩) f.words.length f.words.length,.string f.to,.int .i64 f.role,.bool f.must,.bool f.fixed,.string f.de,.string f.we]] w fun e w'=>e=.returned (.bool (ay ss f))∧Bel w w':=by
 have HP:=hid hp;have HL:=hid h;have HO:Hid (ay ss f=(bD f&&aC ss f&&gg f)):=by show ay ss f=_;simp[ay,isKind,hk]
 have ll:Hid (∀ W,Bel w W→Calls Tryz.prog 237 #[.agg #[.string f.nm,.int .i64 1,.int .i64 f.least,.int .i64 f.most,.slice (some ⟨b,0,none⟩) f.words.length f.words.length,.string f.to,.int .i64 f.role,.bool f.must,.bool f.fixed,.string f.de,.string f.we],.slice (some ⟨B,0,none⟩) ss.length ss.length] W fun e w'=>e=.returned (.bool (aC ss f))∧Bel W w'):=by
  intro W hW;have Q:=HP.out.later hW
  first|exact vT f b _ ss _ hk HP.out.sized.2.2.2|exact absurd Q.lt (by omega)
 have ea:=hid fun (W:World)=>El f b W HP.out.small hk;have iF:Hid (∀ W,Bel w W→Calls Tryz.prog 198 #[.iface 268 (.agg #[.string f.nm,.int .i64 1,.int .i64 f.least,.int .i64 f.most,.slice (some ⟨b,0,none⟩) f.words.length f.words.length,.string f.to,.int .i64 f.role,.bool f.must,.bool f.fixed,.string f.de,.string f.we]),.string f.de] W fun e w'=>e=.returned (.bool (dA f f.de))∧Bel W w'):=by
  intro W hW;have Q:=HP.out.later hW;have e:dA f f.de=Pl.fits 1 f.least f.most f.words f.de:=by rw[dA,hk]
  rw[e,← De f.least f.most f.words f.de]
  first|exact ow f.nm 1 f.least f.most _ f.to f.role f.must f.fixed f.de f.we f.de W HP.out.sized.2.2.1|exact absurd Q.lt (by omega)
 clear hp h hk;have gk:=tr f.nm 1 f.least f.most (.slice (some ⟨b,0,none⟩) f.words.length f.words.length) f.to f.role f.must f.fixed f.de f.we;have gQ:=rq f.nm 1 f.least f.most (.slice (some ⟨b,0,none⟩) f.words.length f.words.length) f.to f.role f.must f.fixed f.de f.we;go_enter Tryz.func196,Tryz.ntmps196
 go_wp2_with fail
 refine(si _ _ _ _ _ _ _ _ _ _ _).mono ?_;rintro e w1 ⟨rfl,bj⟩;have u7:=aa (ab (Below.refl w.heap.size w) (.cells #[.string f.nm,.int .i64 1,.int .i64 f.least,.int .i64 f.most,.slice (some ⟨b,0,none⟩) f.words.length f.words.length,.string f.to,.int .i64 f.role,.bool f.must,.bool f.fixed,.string f.de,.string f.we] 122)) bj;have k1:∀ o,w1.cell? ⟨w.heap.size,o,none⟩=(w.alloc (.cells #[.string f.nm,.int .i64 1,.int .i64 f.least,.int .i64 f.most,.slice (some ⟨b,0,none⟩) f.words.length f.words.length,.string f.to,.int .i64 f.role,.bool f.must,.bool f.fixed,.string f.de,.string f.we] 122)).cell? ⟨w.heap.size,o,none⟩:=fun o=>bj.cell (p:=⟨w.heap.size,o,none⟩) (by simp);have z1:w.heap.size<w1.heap.size:=by have:=bj.size;simp at this;omega
 clear bj;go_wp2_with fail
 refine(ea.out _).mono ?_;rintro e w2 ⟨rfl,aA⟩;have bF:=aa u7 aA;have k2:∀ o,w2.cell? ⟨w.heap.size,o,none⟩=(w.alloc (.cells #[.string f.nm,.int .i64 1,.int .i64 f.least,.int .i64 f.most,.slice (some ⟨b,0,none⟩) f.words.length f.words.length,.string f.to,.int .i64 f.role,.bool f.must,.bool f.fixed,.string f.de,.string f.we] 122)).cell? ⟨w.heap.size,o,none⟩:=fun o=>(aA.cell (p:=⟨w.heap.size,o,none⟩) z1).trans (k1 o);have z2:=lo z1 aA.size;clear aA k1 u7 z1 ea gk;cases hba:bD f
 ·have HF:Hid (ay ss f=false):=by show ay ss f=_;rw[HO.out,hba];rfl
  go_wp2;go_ret;exact⟨Pl.ae HF.out.symm,bF⟩
 go_wp2_with fail
 refine(ll.out _ bF).mono ?_;rintro e w3 ⟨rfl,aQ⟩;have eW:=aa bF aQ;have k3:∀ o,w3.cell? ⟨w.heap.size,o,none⟩=(w.alloc (.cells #[.string f.nm,.int .i64 1,.int .i64 f.least,.int .i64 f.most,.slice (some ⟨b,0,none⟩) f.words.length f.words.length,.string f.to,.int .i64 f.role,.bool f.must,.bool f.fixed,.string f.de,.string f.we] 122)).cell? ⟨w.heap.size,o,none⟩:=fun o=>(aQ.cell (p:=⟨w.heap.size,o,none⟩) z2).trans (k2 o);clear aQ k2 bF z2 ll gQ;cases hbo:aC ss f
 ·have HF:Hid (ay ss f=false):=by show ay ss f=_;rw[HO.out,hbo];simp
  go_wp2;go_ret;exact⟨Pl.ae HF.out.symm,eW⟩
 cases hem:f.de.toList.isEmpty
 ·have HF:Hid (ay ss f=dA f f.de):=by show ay ss f=_;rw[HO.out,hba,hbo];simp[gg,Pl.aE,hem]
  go_wp2_with fail
  refine(iF.out _ eW).mono ?_;rintro e w4 ⟨rfl,cq⟩;have F0:=aa eW cq;go_wp2;go_ret;exact⟨Pl.ae HF.out.symm,F0⟩
 ·have HF:Hid (ay ss f=true):=by show ay ss f=_;rw[HO.out,hba,hbo];simp[gg,Pl.aE,hem]
  go_wp2;go_ret;exact⟨Pl.ae HF.out.symm,eW⟩
theorem ua (f:Fld) (b B:Nat) (ss:List Shp) (w:World) (hk:f.kind=2) (h:bd w B ss) (hp:eC w b f):
  Calls Tryz.prog 196 #[.slice (some ⟨B,0,none⟩) ss.length ss.length,.agg #[.string f.nm,.int .i64 2,.int .i64 f.least,.int .i64 f.most,.slice (some ⟨b,0,none⟩) f.words.length f.words.length,.string f.to,.int .i64 f.role,.bool f.must,.bool f.fixed,.string f.de,.string f.we]] w fun e w'=>e=.returned (.bool (ay ss f))∧Bel w w':=by
 have HP:=hid hp;have HL:=hid h;have HO:Hid (ay ss f=(bD f&&aC ss f&&gg f)):=by show ay ss f=_;simp[ay,isKind,hk]
 have ll:Hid (∀ W,Bel w W→Calls Tryz.prog 240 #[.agg #[.string f.nm,.int .i64 2,.int .i64 f.least,.int .i64 f.most,.slice (some ⟨b,0,none⟩) f.words.length f.words.length,.string f.to,.int .i64 f.role,.bool f.must,.bool f.fixed,.string f.de,.string f.we],.slice (some ⟨B,0,none⟩) ss.length ss.length] W fun e w'=>e=.returned (.bool (aC ss f))∧Bel W w'):=by
  intro W hW;have Q:=HP.out.later hW
  first|exact xA f b _ ss _ hk HP.out.small Q.lt Q.sizes Q.cells|exact absurd Q.lt (by omega)
 have ea:=hid fun (W:World)=>Ef f b W HP.out.small hk;have iF:Hid (∀ W,Bel w W→Calls Tryz.prog 198 #[.iface 270 (.agg #[.string f.nm,.int .i64 2,.int .i64 f.least,.int .i64 f.most,.slice (some ⟨b,0,none⟩) f.words.length f.words.length,.string f.to,.int .i64 f.role,.bool f.must,.bool f.fixed,.string f.de,.string f.we]),.string f.de] W fun e w'=>e=.returned (.bool (dA f f.de))∧Bel W w'):=by
  intro W hW;have Q:=HP.out.later hW;have e:dA f f.de=Pl.fits 2 f.least f.most f.words f.de:=by rw[dA,hk]
  rw[e,← Dd f.least f.most f.words f.de]
  first|exact oy f.nm 2 f.least f.most b 0 f.words.length f.to f.role f.must f.fixed f.de f.we f.de f.words W Q.lt (by have:f.words.length≤1048576:=HP.out.small;unfold maxLen;omega) Q.cells|exact absurd Q.lt (by omega)
 clear hp h hk;have gk:=tf f.nm 2 f.least f.most (.slice (some ⟨b,0,none⟩) f.words.length f.words.length) f.to f.role f.must f.fixed f.de f.we;have gQ:=rV f.nm 2 f.least f.most (.slice (some ⟨b,0,none⟩) f.words.length f.words.length) f.to f.role f.must f.fixed f.de f.we;go_enter Tryz.func196,Tryz.ntmps196
 go_wp2_with fail
 refine(rm _ _ _ _ _ _ _ _ _ _ _).mono ?_;rintro e w1 ⟨rfl,bj⟩;have u7:=aa (ab (Below.refl w.heap.size w) (.cells #[.string f.nm,.int .i64 2,.int .i64 f.least,.int .i64 f.most,.slice (some ⟨b,0,none⟩) f.words.length f.words.length,.string f.to,.int .i64 f.role,.bool f.must,.bool f.fixed,.string f.de,.string f.we] 122)) bj;have k1:∀ o,w1.cell? ⟨w.heap.size,o,none⟩=(w.alloc (.cells #[.string f.nm,.int .i64 2,.int .i64 f.least,.int .i64 f.most,.slice (some ⟨b,0,none⟩) f.words.length f.words.length,.string f.to,.int .i64 f.role,.bool f.must,.bool f.fixed,.string f.de,.string f.we] 122)).cell? ⟨w.heap.size,o,none⟩:=fun o=>bj.cell (p:=⟨w.heap.size,o,none⟩) (by simp);have z1:w.heap.size<w1.heap.size:=by have:=bj.size;simp at this;omega
 clear bj;go_wp2_with fail
 refine(ea.out _).mono ?_;rintro e w2 ⟨rfl,aA⟩;have bF:=aa u7 aA;have k2:∀ o,w2.cell? ⟨w.heap.size,o,none⟩=(w.alloc (.cells #[.string f.nm,.int .i64 2,.int .i64 f.least,.int .i64 f.most,.slice (some ⟨b,0,none⟩) f.words.length f.words.length,.string f.to,.int .i64 f.role,.bool f.must,.bool f.fixed,.string f.de,.string f.we] 122)).cell? ⟨w.heap.size,o,none⟩:=fun o=>(aA.cell (p:=⟨w.heap.size,o,none⟩) z1).trans (k1 o);have z2:=lo z1 aA.size;clear aA k1 u7 z1 ea gk;cases hba:bD f
 ·have HF:Hid (ay ss f=false):=by show ay ss f=_;rw[HO.out,hba];rfl
  go_wp2;go_ret;exact⟨Pl.ae HF.out.symm,bF⟩
 go_wp2_with fail
 refine(ll.out _ bF).mono ?_;rintro e w3 ⟨rfl,aQ⟩;have eW:=aa bF aQ;have k3:∀ o,w3.cell? ⟨w.heap.size,o,none⟩=(w.alloc (.cells #[.string f.nm,.int .i64 2,.int .i64 f.least,.int .i64 f.most,.slice (some ⟨b,0,none⟩) f.words.length f.words.length,.string f.to,.int .i64 f.role,.bool f.must,.bool f.fixed,.string f.de,.string f.we] 122)).cell? ⟨w.heap.size,o,none⟩:=fun o=>(aQ.cell (p:=⟨w.heap.size,o,none⟩) z2).trans (k2 o);clear aQ k2 bF z2 ll gQ;cases hbo:aC ss f
 ·have HF:Hid (ay ss f=false):=by show ay ss f=_;rw[HO.out,hbo];simp
  go_wp2;go_ret;exact⟨Pl.ae HF.out.symm,eW⟩
 cases hem:f.de.toList.isEmpty
 ·have HF:Hid (ay ss f=dA f f.de):=by show ay ss f=_;rw[HO.out,hba,hbo];simp[gg,Pl.aE,hem]
  go_wp2_with fail
  refine(iF.out _ eW).mono ?_;rintro e w4 ⟨rfl,cq⟩;have F0:=aa eW cq;go_wp2;go_ret;exact⟨Pl.ae HF.out.symm,F0⟩
 ·have HF:Hid (ay ss f=true):=by show ay ss f=_;rw[HO.out,hba,hbo];simp[gg,Pl.aE,hem]
  go_wp2;go_ret;exact⟨Pl.ae HF.out.symm,eW⟩
theorem tY (f:Fld) (b B:Nat) (ss:List Shp) (w:World) (hk:f.kind=3) (h:bd w B ss) (hp:eC w b f):
  Calls Tryz.prog 196 #[.slice (some ⟨B,0,none⟩) ss.length ss.length,.agg #[.string f.nm,.int .i64 3,.int .i64 f.least,.int .i64 f.most,.slice (some ⟨b,0,none⟩) f.words.length f.words.length,.string f.to,.int .i64 f.role,.bool f.must,.bool f.fixed,.string f.de,.string f.we]] w fun e w'=>e=.returned (.bool (ay ss f))∧Bel w w':=by
 have HP:=hid hp;have HL:=hid h;have HO:Hid (ay ss f=(bD f&&aC ss f&&gg f)):=by show ay ss f=_;simp[ay,isKind,hk]
 have ll:Hid (∀ W,Bel w W→Calls Tryz.prog 245 #[.agg #[.string f.nm,.int .i64 3,.int .i64 f.least,.int .i64 f.most,.slice (some ⟨b,0,none⟩) f.words.length f.words.length,.string f.to,.int .i64 f.role,.bool f.must,.bool f.fixed,.string f.de,.string f.we],.slice (some ⟨B,0,none⟩) ss.length ss.length] W fun e w'=>e=.returned (.bool (aC ss f))∧Bel W w'):=by
  intro W hW;have Q:=HP.out.later hW
  first|exact wm f b _ ss _ hk|exact absurd Q.lt (by omega)
 have ea:=hid fun (W:World)=>En f b W HP.out.small hk;have iF:Hid (∀ W,Bel w W→Calls Tryz.prog 198 #[.iface 271 (.agg #[.string f.nm,.int .i64 3,.int .i64 f.least,.int .i64 f.most,.slice (some ⟨b,0,none⟩) f.words.length f.words.length,.string f.to,.int .i64 f.role,.bool f.must,.bool f.fixed,.string f.de,.string f.we]),.string f.de] W fun e w'=>e=.returned (.bool (dA f f.de))∧Bel W w'):=by
  intro W hW;have Q:=HP.out.later hW;have e:dA f f.de=Pl.fits 3 f.least f.most f.words f.de:=by rw[dA,hk]
  rw[e,← Dc f.least f.most f.words f.de]
  first|exact oD f.nm 3 f.least f.most _ f.to f.role f.must f.fixed f.de f.we f.de W HP.out.sized.2.2.1|exact absurd Q.lt (by omega)
 clear hp h hk;have gk:=tB f.nm 3 f.least f.most (.slice (some ⟨b,0,none⟩) f.words.length f.words.length) f.to f.role f.must f.fixed f.de f.we;have gQ:=rS f.nm 3 f.least f.most (.slice (some ⟨b,0,none⟩) f.words.length f.words.length) f.to f.role f.must f.fixed f.de f.we;go_enter Tryz.func196,Tryz.ntmps196
 go_wp2_with fail
 refine(rJ _ _ _ _ _ _ _ _ _ _ _).mono ?_;rintro e w1 ⟨rfl,bj⟩;have u7:=aa (ab (Below.refl w.heap.size w) (.cells #[.string f.nm,.int .i64 3,.int .i64 f.least,.int .i64 f.most,.slice (some ⟨b,0,none⟩) f.words.length f.words.length,.string f.to,.int .i64 f.role,.bool f.must,.bool f.fixed,.string f.de,.string f.we] 122)) bj;have k1:∀ o,w1.cell? ⟨w.heap.size,o,none⟩=(w.alloc (.cells #[.string f.nm,.int .i64 3,.int .i64 f.least,.int .i64 f.most,.slice (some ⟨b,0,none⟩) f.words.length f.words.length,.string f.to,.int .i64 f.role,.bool f.must,.bool f.fixed,.string f.de,.string f.we] 122)).cell? ⟨w.heap.size,o,none⟩:=fun o=>bj.cell (p:=⟨w.heap.size,o,none⟩) (by simp);have z1:w.heap.size<w1.heap.size:=by have:=bj.size;simp at this;omega
 clear bj;go_wp2_with fail
 refine(ea.out _).mono ?_;rintro e w2 ⟨rfl,aA⟩;have bF:=aa u7 aA;have k2:∀ o,w2.cell? ⟨w.heap.size,o,none⟩=(w.alloc (.cells #[.string f.nm,.int .i64 3,.int .i64 f.least,.int .i64 f.most,.slice (some ⟨b,0,none⟩) f.words.length f.words.length,.string f.to,.int .i64 f.role,.bool f.must,.bool f.fixed,.string f.de,.string f.we] 122)).cell? ⟨w.heap.size,o,none⟩:=fun o=>(aA.cell (p:=⟨w.heap.size,o,none⟩) z1).trans (k1 o);have z2:=lo z1 aA.size;clear aA k1 u7 z1 ea gk;cases hba:bD f
 ·have HF:Hid (ay ss f=false):=by show ay ss f=_;rw[HO.out,hba];rfl
  go_wp2;go_ret;exact⟨Pl.ae HF.out.symm,bF⟩
 go_wp2_with fail
 refine(ll.out _ bF).mono ?_;rintro e w3 ⟨rfl,aQ⟩;have eW:=aa bF aQ;have k3:∀ o,w3.cell? ⟨w.heap.size,o,none⟩=(w.alloc (.cells #[.string f.nm,.int .i64 3,.int .i64 f.least,.int .i64 f.most,.slice (some ⟨b,0,none⟩) f.words.length f.words.length,.string f.to,.int .i64 f.role,.bool f.must,.bool f.fixed,.string f.de,.string f.we] 122)).cell? ⟨w.heap.size,o,none⟩:=fun o=>(aQ.cell (p:=⟨w.heap.size,o,none⟩) z2).trans (k2 o);clear aQ k2 bF z2 ll gQ;cases hbo:aC ss f
 ·have HF:Hid (ay ss f=false):=by show ay ss f=_;rw[HO.out,hbo];simp
  go_wp2;go_ret;exact⟨Pl.ae HF.out.symm,eW⟩
 cases hem:f.de.toList.isEmpty
 ·have HF:Hid (ay ss f=dA f f.de):=by show ay ss f=_;rw[HO.out,hba,hbo];simp[gg,Pl.aE,hem]
  go_wp2_with fail
  refine(iF.out _ eW).mono ?_;rintro e w4 ⟨rfl,cq⟩;have F0:=aa eW cq;go_wp2;go_ret;exact⟨Pl.ae HF.out.symm,F0⟩
 ·have HF:Hid (ay ss f=true):=by show ay ss f=_;rw[HO.out,hba,hbo];simp[gg,Pl.aE,hem]
  go_wp2;go_ret;exact⟨Pl.ae HF.out.symm,eW⟩
theorem tJ (f:Fld) (b B:Nat) (ss:List Shp) (w:World) (hk:f.kind=4) (h:bd w B ss) (hp:eC w b f):
  Calls Tryz.prog 196 #[.slice (some ⟨B,0,none⟩) ss.length ss.length,.agg #[.string f.nm,.int .i64 4,.int .i64 f.least,.int .i64 f.most,.slice (some ⟨b,0,none⟩) f.words.length f.words.length,.string f.to,.int .i64 f.role,.bool f.must,.bool f.fixed,.string f.de,.string f.we]] w fun e w'=>e=.returned (.bool (ay ss f))∧Bel w w':=by
 have HP:=hid hp;have HL:=hid h;have HO:Hid (ay ss f=(bD f&&aC ss f&&gg f)):=by show ay ss f=_;simp[ay,isKind,hk]
 have ll:Hid (∀ W,Bel w W→Calls Tryz.prog 248 #[.agg #[.string f.nm,.int .i64 4,.int .i64 f.least,.int .i64 f.most,.slice (some ⟨b,0,none⟩) f.words.length f.words.length,.string f.to,.int .i64 f.role,.bool f.must,.bool f.fixed,.string f.de,.string f.we],.slice (some ⟨B,0,none⟩) ss.length ss.length] W fun e w'=>e=.returned (.bool (aC ss f))∧Bel W w'):=by
  intro W hW;have Q:=HP.out.later hW
  first|exact wM f b B ss W hk (HL.out.later hW)|exact absurd Q.lt (by omega)
 have ea:=hid fun (W:World)=>DO f b W HP.out.small hk;have iF:Hid (∀ W,Bel w W→Calls Tryz.prog 198 #[.iface 272 (.agg #[.string f.nm,.int .i64 4,.int .i64 f.least,.int .i64 f.most,.slice (some ⟨b,0,none⟩) f.words.length f.words.length,.string f.to,.int .i64 f.role,.bool f.must,.bool f.fixed,.string f.de,.string f.we]),.string f.de] W fun e w'=>e=.returned (.bool (dA f f.de))∧Bel W w'):=by
  intro W hW;have Q:=HP.out.later hW;have e:dA f f.de=Pl.fits 4 f.least f.most f.words f.de:=by rw[dA,hk]
  rw[e,← C7 f.least f.most f.words f.de]
  first|exact nL f.nm 4 f.least f.most _ f.to f.role f.must f.fixed f.de f.we f.de W HP.out.sized.2.2.1|exact absurd Q.lt (by omega)
 clear hp h hk;have gk:=te f.nm 4 f.least f.most (.slice (some ⟨b,0,none⟩) f.words.length f.words.length) f.to f.role f.must f.fixed f.de f.we;have gQ:=rQ f.nm 4 f.least f.most (.slice (some ⟨b,0,none⟩) f.words.length f.words.length) f.to f.role f.must f.fixed f.de f.we;go_enter Tryz.func196,Tryz.ntmps196
 go_wp2_with fail
 refine(ry _ _ _ _ _ _ _ _ _ _ _).mono ?_;rintro e w1 ⟨rfl,bj⟩;have u7:=aa (ab (Below.refl w.heap.size w) (.cells #[.string f.nm,.int .i64 4,.int .i64 f.least,.int .i64 f.most,.slice (some ⟨b,0,none⟩) f.words.length f.words.length,.string f.to,.int .i64 f.role,.bool f.must,.bool f.fixed,.string f.de,.string f.we] 122)) bj;have k1:∀ o,w1.cell? ⟨w.heap.size,o,none⟩=(w.alloc (.cells #[.string f.nm,.int .i64 4,.int .i64 f.least,.int .i64 f.most,.slice (some ⟨b,0,none⟩) f.words.length f.words.length,.string f.to,.int .i64 f.role,.bool f.must,.bool f.fixed,.string f.de,.string f.we] 122)).cell? ⟨w.heap.size,o,none⟩:=fun o=>bj.cell (p:=⟨w.heap.size,o,none⟩) (by simp);have z1:w.heap.size<w1.heap.size:=by have:=bj.size;simp at this;omega
 clear bj;go_wp2_with fail
 refine(ea.out _).mono ?_;rintro e w2 ⟨rfl,aA⟩;have bF:=aa u7 aA;have k2:∀ o,w2.cell? ⟨w.heap.size,o,none⟩=(w.alloc (.cells #[.string f.nm,.int .i64 4,.int .i64 f.least,.int .i64 f.most,.slice (some ⟨b,0,none⟩) f.words.length f.words.length,.string f.to,.int .i64 f.role,.bool f.must,.bool f.fixed,.string f.de,.string f.we] 122)).cell? ⟨w.heap.size,o,none⟩:=fun o=>(aA.cell (p:=⟨w.heap.size,o,none⟩) z1).trans (k1 o);have z2:=lo z1 aA.size;clear aA k1 u7 z1 ea gk;cases hba:bD f
 ·have HF:Hid (ay ss f=false):=by show ay ss f=_;rw[HO.out,hba];rfl
  go_wp2;go_ret;exact⟨Pl.ae HF.out.symm,bF⟩
 go_wp2_with fail
 refine(ll.out _ bF).mono ?_;rintro e w3 ⟨rfl,aQ⟩;have eW:=aa bF aQ;have k3:∀ o,w3.cell? ⟨w.heap.size,o,none⟩=(w.alloc (.cells #[.string f.nm,.int .i64 4,.int .i64 f.least,.int .i64 f.most,.slice (some ⟨b,0,none⟩) f.words.length f.words.length,.string f.to,.int .i64 f.role,.bool f.must,.bool f.fixed,.string f.de,.string f.we] 122)).cell? ⟨w.heap.size,o,none⟩:=fun o=>(aQ.cell (p:=⟨w.heap.size,o,none⟩) z2).trans (k2 o);clear aQ k2 bF z2 ll gQ;cases hbo:aC ss f
 ·have HF:Hid (ay ss f=false):=by show ay ss f=_;rw[HO.out,hbo];simp
  go_wp2;go_ret;exact⟨Pl.ae HF.out.symm,eW⟩
 cases hem:f.de.toList.isEmpty
 ·have HF:Hid (ay ss f=dA f f.de):=by show ay ss f=_;rw[HO.out,hba,hbo];simp[gg,Pl.aE,hem]
  go_wp2_with fail
  refine(iF.out _ eW).mono ?_;rintro e w4 ⟨rfl,cq⟩;have F0:=aa eW cq;go_wp2;go_ret;exact⟨Pl.ae HF.out.symm,F0⟩
 ·have HF:Hid (ay ss f=true):=by show ay ss f=_;rw[HO.out,hba,hbo];simp[gg,Pl.aE,hem]
  go_wp2;go_ret;exact⟨Pl.ae HF.out.symm,eW⟩
end Go.Proofs.YtbiokpmdghmgcaaGreat
