import Derived.Test.YtiabacnmmojfjabGreatDoorJoint3
import Derived.Test.YtiabacnmmojfjabGreatDoorJoint2
import Derived.Test.YtiabacnmmojfjabGreatDoorJoint4
import Derived.Deep.QuietTactic
import Derived.BigQuiet
import Derived.Deep.RegionWith
set_option maxHeartbeats 1000000
open Go.Proofs.Tryz
namespace Go.Proofs.YtiabacnmmojfjabGreatDoor
open Go.ChangeShapes Go.WideShapes Go.ChangeAt Go.RowKit
theorem zBA {a b:Nat} (ha:a<4294967296) (hb:b<4294967296):bits .xor .i64 (a:Int) (b:Int)=((a ^^^ b:Nat):Int):=zIC a b (by omega) (by omega)
theorem zDJ {a b:Nat} (ha:a<4294967296) (hb:b<4294967296):bits .and .i64 (a:Int) (b:Int)=((a &&& b:Nat):Int):=zID a b (by omega) (by omega)
theorem zBu (v n:Nat) (m:Int) (hm:m=n) (w:World) (h2:v<4294967296) (h3:1≤n) (h4:n≤31):
  Calls prog 162 #[.int .i64 v,.int .i64 m] w fun e w'=>e=.returned (.int .i64 (rotN v n:Nat))∧w'=w:=by
 subst hm;exact zLb v n w h2 h3 h4
theorem zKX (a b c d e f g h word key:Nat) (w:World) (ha:a<4294967296) (hb:b<4294967296) (hc:c<4294967296) (hd:d<4294967296) (he:e<4294967296) (hf:f<4294967296) (hg:g<4294967296) (hh:h<4294967296) (hw:word<4294967296) (hk:key<4294967296):
  Calls prog 136 #[.agg #[.int .i64 a,.int .i64 b,.int .i64 c,.int .i64 d,.int .i64 e,.int .i64 f,.int .i64 g,.int .i64 h],.int .i64 word,.int .i64 key] w fun r w'=>r=.returned (.agg (zCA ⟨a,b,c,d,e,f,g,h⟩ word key).i64)∧Below w.heap.size w w':=by
 have x1:=zBA (zY e 6 he (by decide)) (zY e 11 he (by decide));have x2:bits .xor .i64 _ _=((rot3 e 6 11 25:Nat):Int):=zBA (zAy (zY e 6 he (by decide)) (zY e 11 he (by decide))) (zY e 25 he (by decide));have y1:=zBA (zY a 2 ha (by decide)) (zY a 13 ha (by decide));have y2:bits .xor .i64 _ _=((rot3 a 2 13 22:Nat):Int):=zBA (zAy (zY a 2 ha (by decide)) (zY a 13 ha (by decide))) (zY a 22 ha (by decide));have z1:=zDJ he hf
 have z2:bits .and .i64 (4294967295-(e:Int)) (g:Int)=(((4294967295-e) &&& g:Nat):Int):=by
  rw[show 4294967295-(e:Int)=((4294967295-e:Nat):Int) by omega];exact zDJ (by omega) hg
 have z3:bits .xor .i64 ((e &&& f:Nat):Int) (((4294967295-e) &&& g:Nat):Int)=((chN e f g:Nat):Int):=zBA (zAe he) (zAe (by omega));have m1:=zDJ ha hb;have m2:=zDJ ha hc;have m3:=zDJ hb hc;have m4:=zBA (zAe (b:=b) ha) (zAe (b:=c) ha);have m5:bits .xor .i64 (((a &&& b) ^^^ (a &&& c):Nat):Int) ((b &&& c:Nat):Int)=((majN a b c:Nat):Int):=zBA (zAy (zAe ha) (zAe ha)) (zAe hb)
 have b1:((rot3 e 6 11 25:Nat):Int)≤4294967295:=by have:=zKE (i:=6) (j:=11) (k:=25) he (by decide) (by decide) (by decide);omega
 have b2:((rot3 a 2 13 22:Nat):Int)≤4294967295:=by have:=zKE (i:=2) (j:=13) (k:=22) ha (by decide) (by decide) (by decide);omega
 have b3:((chN e f g:Nat):Int)≤4294967295:=by have:=zNn (f:=f) (g:=g) he;omega
 have b4:((majN a b c:Nat):Int)≤4294967295:=by have:=zM2 (c:=c) ha hb;omega
 go_enter func136,ntmps136;go_wp2_with fail;refine(zBu e 6 _ rfl _ he (by decide) (by decide)).mono ?_;rintro r w' ⟨rfl,rfl⟩;go_wp2_with fail;refine(zBu e 11 _ rfl _ he (by decide) (by decide)).mono ?_;rintro r w' ⟨rfl,rfl⟩;go_wp2_with fail;refine(zBu e 25 _ rfl _ he (by decide) (by decide)).mono ?_;rintro r w' ⟨rfl,rfl⟩;go_wp2_with fail;refine(zBu a 2 _ rfl _ ha (by decide) (by decide)).mono ?_;rintro r w' ⟨rfl,rfl⟩;go_wp2_with fail;refine(zBu a 13 _ rfl _ ha (by decide) (by decide)).mono ?_;rintro r w' ⟨rfl,rfl⟩;go_wp2_with fail;refine(zBu a 22 _ rfl _ ha (by decide) (by decide)).mono ?_;rintro r w' ⟨rfl,rfl⟩;go_wp2
 have E1:(((h:Int)+(rot3 e 6 11 25:Nat)+(chN e f g:Nat)+key+word+((rot3 a 2 13 22:Nat)+(majN a b c:Nat))) % 4294967296)=(((t1N ⟨a,b,c,d,e,f,g,h⟩ word key+t2N ⟨a,b,c,d,e,f,g,h⟩) % 4294967296:Nat):Int):=by simp only[t1N,t2N];omega
 have E2:(((d:Int)+(h+(rot3 e 6 11 25:Nat)+(chN e f g:Nat)+key+word)) % 4294967296)=(((d+t1N ⟨a,b,c,d,e,f,g,h⟩ word key) % 4294967296:Nat):Int):=by simp only[t1N];omega
 rw[E1,E2];exact bodyPost_ret (v:=.agg (zCA ⟨a,b,c,d,e,f,g,h⟩ word key).i64) (by simp[results,results136,go_sem];rfl) rfl ⟨rfl,yr (zA _ _) _⟩
theorem zGE (x i j k:Nat) (w:World) (hx:x<4294967296) (hi:i≤31) (hj:j≤31) (hk:k≤31):
  Calls prog 212 #[.int .u32 x,.int .i64 i,.int .i64 j,.int .i64 k] w fun e w'=>e=.returned (.int .u32 (rot3 x i j k:Nat))∧w'=w:=by
 have x1:=u32_xor_nat _ _ (zY x i hx (by omega)) (zY x j hx (by omega));have x2:bits .xor .u32 _ _=((rot3 x i j k:Nat):Int):=u32_xor_nat _ _ (zAy (zY x i hx (by omega)) (zY x j hx (by omega))) (zY x k hx (by omega));go_enter func212,ntmps212;go_wp2_with fail;refine(zCJ x i _ hx hi).mono ?_;rintro r w' ⟨rfl,rfl⟩;go_wp2_with fail;refine(zCJ x j _ hx hj).mono ?_;rintro r w' ⟨rfl,rfl⟩;go_wp2_with fail;refine(zCJ x k _ hx hk).mono ?_;rintro r w' ⟨rfl,rfl⟩;go_wp2;go_ret;exact⟨rfl,rfl⟩
theorem zDr (x i j k:Nat) (m n o:Int) (hm:m=i) (hn:n=j) (ho:o=k) (w:World) (hx:x<4294967296) (hi:i≤31) (hj:j≤31) (hk:k≤31):
  Calls prog 212 #[.int .u32 x,.int .i64 m,.int .i64 n,.int .i64 o] w fun e w'=>e=.returned (.int .u32 (rot3 x i j k:Nat))∧w'=w:=by
 subst hm hn ho;exact zGE x i j k w hx hi hj hk
theorem zGy (x i j k:Nat) (w:World) (hx:x<4294967296) (hi:i≤31) (hj:j≤31) (hk:k≤31):
  Calls prog 211 #[.int .u32 x,.int .i64 i,.int .i64 j,.int .i64 k] w fun e w'=>e=.returned (.int .u32 (sh2 x i j k:Nat))∧∃ n,w'=w.drewN n:=by
 have x1:=u32_xor_nat _ _ (zY x i hx (by omega)) (zY x j hx (by omega))
 have x2:bits .xor .u32 ((rotN x i ^^^ rotN x j:Nat):Int) ((x:Int) / 2 ^ k)=((sh2 x i j k:Nat):Int):=by
  rw[show((x:Int) / 2 ^ k)=((x / 2 ^ k:Nat):Int) by push_cast;rfl];exact u32_xor_nat _ _ (zAy (zY x i hx (by omega)) (zY x j hx (by omega))) (Nat.lt_of_le_of_lt (Nat.div_le_self x (2 ^ k)) hx)
 go_enter func211,ntmps211;go_wp2
 go_quiet ((first | (go_at_call_of 219 (Value.int .i64 (i:Int));exact Calls.quiet_of_same (zCJ x i _ hx hi)) | (go_at_call_of 219 (Value.int .i64 (j:Int));exact Calls.quiet_of_same (zCJ x j _ hx hj))))
 go_wp2;go_ret;exact⟨rfl,_,rfl⟩
theorem zOg (e:Nat) (h:e<4294967296):bits .xor .u32 IntKind.u32.max (e:Int)=((4294967295-e:Nat):Int):=by
 have h1:IntKind.u32.max=((4294967295:Nat):Int):=by decide
 rw[h1,u32_xor_nat _ _ (by decide) h]
 congr 1
 have h2:(BitVec.allOnes 32 ^^^ BitVec.ofNat 32 e).toNat=4294967295 ^^^ e:=by
  rw[BitVec.toNat_xor,BitVec.toNat_allOnes,BitVec.toNat_ofNat,Nat.mod_eq_of_lt (by omega)]
 rw[← h2,BitVec.allOnes_xor,BitVec.toNat_not,BitVec.toNat_ofNat,Nat.mod_eq_of_lt (by omega)]
theorem zNH (a b c d e f g q word key:Nat) (w:World) (ha:a<4294967296) (hb:b<4294967296) (hc:c<4294967296) (he:e<4294967296) (hf:f<4294967296) (hg:g<4294967296):
  Calls prog 203 #[.agg #[.int .u32 a,.int .u32 b,.int .u32 c,.int .u32 d,.int .u32 e,.int .u32 f,.int .u32 g,.int .u32 q],.int .u32 word,.int .u32 key] w fun r w'=>r=.returned (.agg (zCA ⟨a,b,c,d,e,f,g,q⟩ word key).u32)∧Below w.heap.size w w':=by
 have z1:=u32_and_nat _ _ he hf;have z2:=u32_and_nat (4294967295-e) g (by omega) hg;have z3:bits .xor .u32 ((e &&& f:Nat):Int) (((4294967295-e) &&& g:Nat):Int)=((chN e f g:Nat):Int):=u32_xor_nat _ _ (zAe he) (zAe (by omega));have m1:=u32_and_nat _ _ ha hb;have m2:=u32_and_nat _ _ ha hc;have m3:=u32_and_nat _ _ hb hc;have m4:=u32_xor_nat _ _ (zAe (b:=b) ha) (zAe (b:=c) ha);have m5:bits .xor .u32 (((a &&& b) ^^^ (a &&& c):Nat):Int) ((b &&& c:Nat):Int)=((majN a b c:Nat):Int):=u32_xor_nat _ _ (zAy (zAe ha) (zAe ha)) (zAe hb);have n1:=zOg e he;go_enter func203,ntmps203;go_wp2
 go_quiet (fail)
 go_wp2_with fail;refine zFg (by kernel_rfl) (by kernel_rfl) ?_
 repeat (go_big_quiet_step ((go_at_call 212;exact Calls.quiet_of_same (zDr e 6 11 25 _ _ _ rfl rfl rfl _ he (by decide) (by decide) (by decide)))))
 refine wpQuiet_nil ?_;rintro _ ⟨nr,rfl⟩;go_wp2_with fail;refine(zDr a 2 13 22 _ _ _ rfl rfl rfl _ ha (by decide) (by decide) (by decide)).mono ?_;rintro r w' ⟨rfl,rfl⟩;go_wp2
 have E1:(((q:Int)+(rot3 e 6 11 25:Nat)+(chN e f g:Nat)+key+word+((rot3 a 2 13 22:Nat)+(majN a b c:Nat))) % 4294967296)=(((t1N ⟨a,b,c,d,e,f,g,q⟩ word key+t2N ⟨a,b,c,d,e,f,g,q⟩) % 4294967296:Nat):Int):=by simp only[t1N,t2N];omega
 have E2:(((d:Int)+(q+(rot3 e 6 11 25:Nat)+(chN e f g:Nat)+key+word)) % 4294967296)=(((d+t1N ⟨a,b,c,d,e,f,g,q⟩ word key) % 4294967296:Nat):Int):=by simp only[t1N];omega
 rw[E1,E2];exact bodyPost_ret (v:=.agg (zCA ⟨a,b,c,d,e,f,g,q⟩ word key).u32) (by simp[results,results203,go_sem];rfl) rfl ⟨rfl,((((((((below_drewN (yr (zA _ _) _) _).setCell (yh _) _).setCell (yh _) _).setCell (yh _) _).setCell (yh _) _).setCell (yh _) _).setCell (yh _) _).setCell (yh _) _).setCell (yh _) _⟩
end Go.Proofs.YtiabacnmmojfjabGreatDoor
