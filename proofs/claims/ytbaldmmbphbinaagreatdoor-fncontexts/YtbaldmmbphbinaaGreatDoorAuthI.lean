import Derived.Test.YtbaldmmbphbinaaGreatDoorJoint17
import Derived.Test.YtbaldmmbphbinaaGreatDoorJoint22
import Derived.Test.YtbaldmmbphbinaaGreatDoorJoint20
import Derived.Test.YtbaldmmbphbinaaGreatDoorJoint21
import Derived.Test.YtbaldmmbphbinaaGreatDoorJoint23
import Derived.Test.YtbaldmmbphbinaaGreatDoorJoint16
import Derived.Test.YtbaldmmbphbinaaGreatDoorJoint15
import Derived.Test.YtbaldmmbphbinaaGreatDoorKeyI
import Derived.Test.YtbaldmmbphbinaaGreatDoorJoint7
import Derived.Laws.Cover2
import Derived.Laws.Cover3
import Derived.Laws.FloatArith
set_option maxHeartbeats 1000000
set_option maxRecDepth 4000
namespace Go.Proofs.YtbaldmmbphbinaaGreatDoor
open Go.ChangeShapes Go.WideShapes Go.ChangeAt Go.RowKit
theorem zDH (v:Int) (w:World):Calls Tryz.prog 122 #[.int .i64 v] w fun e w'=>e=.returned (.bool (inB v 0 39))∧w'=w:=by
 by_cases h1:0≤v
 ·by_cases h2:v<40
  ·rw[zBP h1 (by omega)];go_enter Tryz.func122,Tryz.ntmps122;go_wp2;go_ret;exact⟨rfl,rfl⟩
  ·rw[zAI (by omega)];go_enter Tryz.func122,Tryz.ntmps122;go_wp2;go_ret;exact⟨rfl,rfl⟩
 ·rw[zAI (by omega)];go_enter Tryz.func122,Tryz.ntmps122;go_wp2;go_ret;exact⟨rfl,rfl⟩
theorem zFa {r:Int} (h:zB1 r=true):r=1∨r=2:=by simpa [zB1] using h
theorem zFb {x:List UInt8} {r:Int} (h:akC x r=0):zB1 r=true∧is32 x=true:=by
 unfold akC at h;cases h1:is32 x
 ·rw[h1] at h;cases h
 ·cases h2:zB1 r
  ·rw[h1,h2] at h;cases h
  ·exact⟨rfl,rfl⟩
theorem zEO (w:World):Calls Tryz.prog 162 #[.int .i64 1] w fun e w'=>e=.returned (.string ⟨#[99,108,105,101,110,116]⟩)∧w'=w:=by
 go_enter Tryz.func162,Tryz.ntmps162;go_wp2;go_ret;exact⟨rfl,rfl⟩
theorem zEP (w:World):Calls Tryz.prog 162 #[.int .i64 2] w fun e w'=>e=.returned (.string ⟨#[115,101,114,118,101,114]⟩)∧w'=w:=by
 go_enter Tryz.func162,Tryz.ntmps162;go_wp2;go_ret;exact⟨rfl,rfl⟩
theorem zGy (r:Int) (fin:Bool) (w:World) (hr:zB1 r=true):Calls Tryz.prog 137 #[.int .i64 r,.bool fin] w fun e w'=>e=.returned (.string (strB (labN r fin)))∧w'=w:=by
 rcases zFa hr with rfl | rfl
 ·cases fin
  ·go_enter Tryz.func137,Tryz.ntmps137;go_wp2_with fail;refine(zEO _).mono ?_;rintro e w2 ⟨rfl,hw⟩;subst w2;go_wp2;go_ret;exact⟨rfl,rfl⟩
  ·go_enter Tryz.func137,Tryz.ntmps137;go_wp2_with fail;refine(zEO _).mono ?_;rintro e w2 ⟨rfl,hw⟩;subst w2;go_wp2;go_ret;exact⟨rfl,rfl⟩
 ·cases fin
  ·go_enter Tryz.func137,Tryz.ntmps137;go_wp2_with fail;refine(zEP _).mono ?_;rintro e w2 ⟨rfl,hw⟩;subst w2;go_wp2;go_ret;exact⟨rfl,rfl⟩
  ·go_enter Tryz.func137,Tryz.ntmps137;go_wp2_with fail;refine(zEP _).mono ?_;rintro e w2 ⟨rfl,hw⟩;subst w2;go_wp2;go_ret;exact⟨rfl,rfl⟩
theorem zMs (p:Option Addr) (q:Nat) (x:List UInt8) (r:Int) (fin:Bool) (w:World) (hk:akC x r=0) (hr:Rd w p q x) (hT:Tabs w):
  Calls Tryz.prog 136 #[.slice p x.length q,.string (strB (labN r fin)),.slice none 0 0,.int .i64 32] w fun e w'=>∃ u,e=.returned (.agg #[.int .i64 0,u])∧Own w' w.heap.size u (kyN x r fin)∧Below w.heap.size w w':=by
 obtain⟨h1,h2⟩:=zFb hk
 have hl:zAB (labN r fin) [] 32=0:=by rcases zFa h1 with rfl | rfl <;> cases fin <;> decide
 have h:=zKv p none q 0 x (labN r fin) [] 32 w hr (zJa _) (Nat.le_trans (zKa _ _) (by decide)) hT
 have hc:exC x (labN r fin) [] 32=0:=by simp[exC,h2,hl]
 rw[hc,show exL x (labN r fin) [] 32=kyN x r fin by rw[exL,if_pos hc];rfl] at h;exact h
theorem zHn (p:Option Addr) (q:Nat) (x:List UInt8) (r:Int) (fin:Bool) (w:World) (hr:Rd w p q x) (hT:Tabs w):
  Calls Tryz.prog 118 #[.slice p x.length q,.int .i64 r,.bool fin] w fun e w'=>∃ u,e=.returned (.agg #[.int .i64 (akD x r fin).1,u])∧Own w' w.heap.size u (akD x r fin).2∧Below w.heap.size w w':=by
 have BW:=zA w (.cells #[.int .i64 0,.slice none 0 0] 126);have R:=Arr.new w [.int .i64 0,.slice none 0 0] 126;have KA:Hid _:=zBE p q x r (w.alloc (.cells #[.int .i64 0,.slice none 0 0] 126))
 by_cases h0:akC x r=0
 ·rw[show akD x r fin=(0,kyN x r fin) by rw[akD,if_pos h0]];have KE:Hid _:=zMs p q x r fin _ h0 (hr.keep BW) (hT.keep BW);have KL:Hid _:=zGy r fin (w.alloc (.cells #[.int .i64 0,.slice none 0 0] 126)) (zFb h0).1;obtain⟨pw,HP⟩:∃ pw,Hid (kyN x r fin=pw):=⟨_,rfl⟩;rw[HP.out] at KE ⊢;rw[h0] at KA;clear HP h0 hr hT;go_enter Tryz.func118,Tryz.ntmps118;go_wp2_with fail;refine Calls.mono KA.out ?_;rintro e w2 ⟨rfl,hw⟩;subst hw;go_wp2_with fail;refine Calls.mono KL.out ?_;rintro e w2 ⟨rfl,hw⟩;subst hw;go_wp2_with fail;refine Calls.mono KE.out ?_;rintro e w3 ⟨u3,rfl,k3,hb3⟩;have BW3:=Below.step BW hb3;have R3:=R.stay hb3;have hlt:Hid (w.heap.size<(w.alloc (.cells #[.int .i64 0,.slice none 0 0] 126)).heap.size):=R.lt;obtain⟨p3,q3,rfl,-⟩:=k3.rd;have c0:=R3.cell 0;have c1:=R3.cell 1;have fz:=R3.frozen;simp at c0 c1;clear R KE KA KL hb3 R3;go_wp2;refine bodyPost_ret (v:=.agg #[.int .i64 0,.slice p3 pw.length q3]) (by simp[results,Tryz.results118,go_sem,c0,c1]) rfl ⟨_,rfl,?_,(BW3.setCell (Nat.le_refl _) _).setCell (Nat.le_refl _) _⟩;exact((k3.set (a:=⟨w.heap.size,0,none⟩) hlt.out _).set (a:=⟨w.heap.size,1,none⟩) hlt.out _).lower (B':=w.heap.size) (by have:=hlt.out;omega)
 ·rw[show akD x r fin=(akC x r,[]) by rw[akD,if_neg h0]];obtain⟨k,HK⟩:∃ k,Hid (akC x r=k):=⟨_,rfl⟩;rw[HK.out] at KA h0 ⊢
  have hd:(k != 0)=true:=by rw[bne_iff_ne];exact h0
  clear HK h0 hr hT R BW;go_enter Tryz.func118,Tryz.ntmps118;go_wp2_with fail;refine Calls.mono KA.out ?_;rintro e w2 ⟨rfl,hw⟩;subst hw;go_wp2;exact bodyPost_ret (v:=.agg #[.int .i64 k,.slice none 0 0]) (by simp[results,Tryz.results118,go_sem]) rfl ⟨_,rfl,zAA _ _,zA _ _⟩
theorem zEQ (p p2:Option Addr) (q q2:Nat) (x ctx:List UInt8) (r:Int) (c:zH) (w:World):
  Calls Tryz.prog 117 #[.slice p x.length q,.int .i64 r,.slice p2 ctx.length q2,.agg #[.int .i64 c.1,.int .i64 c.2.1,.int .i64 c.2.2]] w fun e w'=>e=.returned (.int .i64 (adC x r ctx c))∧Below w.heap.size w w':=by
 have BW:=zA w (.cells #[.int .i64 c.1,.int .i64 c.2.1,.int .i64 c.2.2] 62);have KA:Hid _:=zBE p q x r (w.alloc (.cells #[.int .i64 c.1,.int .i64 c.2.1,.int .i64 c.2.2] 62))
 by_cases h0:akC x r=0
 ·rw[h0] at KA;have KX:=zCD p2 q2 ctx (w.alloc (.cells #[.int .i64 c.1,.int .i64 c.2.1,.int .i64 c.2.2] 62));cases h1:ctxB ctx
  ·rw[show adC x r ctx c=2 by rw[adC,if_pos h0,h1];rfl];rw[h1] at KX;have KX:Hid _:=KX;clear h0 h1;go_enter Tryz.func117,Tryz.ntmps117;go_wp2_with fail;refine Calls.mono KA.out ?_;rintro e w2 ⟨rfl,hw⟩;subst hw;go_wp2_with fail;refine Calls.mono KX.out ?_;rintro e w2 ⟨rfl,hw⟩;subst hw;go_wp2;go_ret;exact⟨rfl,BW⟩
  ·rw[h1] at KX;have KX:Hid _:=KX;have KC:=zD5 c (w.alloc (.cells #[.int .i64 c.1,.int .i64 c.2.1,.int .i64 c.2.2] 62));cases h2:okC c
   ·rw[show adC x r ctx c=3 by rw[adC,if_pos h0,h1,h2];rfl];rw[h2] at KC;have KC:Hid _:=KC;clear h0 h1 h2;go_enter Tryz.func117,Tryz.ntmps117;go_wp2_with fail;refine Calls.mono KA.out ?_;rintro e w2 ⟨rfl,hw⟩;subst hw;go_wp2_with fail;refine Calls.mono KX.out ?_;rintro e w2 ⟨rfl,hw⟩;subst hw;go_wp2_with fail;refine Calls.mono KC.out ?_;rintro e w3 ⟨rfl,hb⟩;go_wp2;go_ret;exact⟨rfl,Below.step BW hb⟩
   ·rw[show adC x r ctx c=0 by rw[adC,if_pos h0,h1,h2];rfl];rw[h2] at KC;have KC:Hid _:=KC;clear h0 h1 h2;go_enter Tryz.func117,Tryz.ntmps117;go_wp2_with fail;refine Calls.mono KA.out ?_;rintro e w2 ⟨rfl,hw⟩;subst hw;go_wp2_with fail;refine Calls.mono KX.out ?_;rintro e w2 ⟨rfl,hw⟩;subst hw;go_wp2_with fail;refine Calls.mono KC.out ?_;rintro e w3 ⟨rfl,hb⟩;go_wp2;go_ret;exact⟨rfl,Below.step BW hb⟩
 ·rw[show adC x r ctx c=akC x r by rw[adC,if_neg h0]];obtain⟨k,HK⟩:∃ k,Hid (akC x r=k):=⟨_,rfl⟩;rw[HK.out] at KA h0 ⊢
  have hd:(k != 0)=true:=by rw[bne_iff_ne];exact h0
  clear HK h0;go_enter Tryz.func117,Tryz.ntmps117;go_wp2_with fail;refine Calls.mono KA.out ?_;rintro e w2 ⟨rfl,hw⟩;subst hw;go_wp2;go_ret;exact⟨rfl,BW⟩
end Go.Proofs.YtbaldmmbphbinaaGreatDoor
