import Derived.Test.YtiabacnmmojfjaaGreatDoorJoint7
import Derived.Test.YtiabacnmmojfjaaGreatDoorJoint3
import Derived.BigQuiet
import Derived.Test.YtiabacnmmojfjaaGreatDoorCod
import Derived.Test.YtiabacnmmojfjaaGreatDoorJoint4
set_option maxHeartbeats 1000000
set_option maxRecDepth 4000
open Go.Proofs.Tryz
namespace Go.Proofs.YtiabacnmmojfjaaGreatDoor
open Go.ChangeShapes Go.WideShapes Go.ChangeAt Go.RowKit
theorem zIg (a:Nat) (h:a<18446744073709551616):bits .and .u64 (a:Int) 1=(a:Int) % 2:=by
  have e:∀ n:Nat,n<18446744073709551616→(BitVec.ofInt 64 (n:Int)).toNat=n:=fun n hn=>by rw[BitVec.toNat_ofInt];omega
  show IntKind.u64.wrap ((BitVec.ofInt 64 (a:Int) &&& BitVec.ofInt 64 ((1:Nat):Int)).toNat:Int)=_
  rw[BitVec.toNat_and,e a h,e 1 (by decide),Nat.and_one_is_mod,IntKind.wrap_u64];omega
theorem zNd (m b:Nat) (hm:m<256) (h1:b<256):bits .or .i64 ((m:Int)*256) (b:Int)=((m*256+b:Nat):Int):=by
  have e:∀ n:Nat,n<18446744073709551616→(BitVec.ofInt 64 (n:Int)).toNat=n:=fun n hn=>by rw[BitVec.toNat_ofInt];omega
  have h2:b<2 ^ 8:=by omega
  rw[show((m:Int)*256)=((m*256:Nat):Int) by omega]
  show IntKind.i64.wrap ((BitVec.ofInt 64 ((m*256:Nat):Int) ||| BitVec.ofInt 64 (b:Int)).toNat:Int)=_
  rw[BitVec.toNat_or,e _ (by omega),e b (by omega),show m*256=m <<< 8 by rw[Nat.shiftLeft_eq],← Nat.shiftLeft_add_eq_or_of_lt h2,Nat.shiftLeft_eq,IntKind.wrap_i64];omega
theorem zAV (v:Int) (w:World):Calls prog 147 #[.int .i64 v] w fun e w'=>e=.returned (.bool (inB v 1 65520))∧w'=w:=by
  by_cases h1:1≤v
  · by_cases h2:v≤65520
    · rw[show inB v 1 65520=true by simp[inB,h1,h2]];go_enter func147,ntmps147;go_wp2;go_ret;exact⟨rfl,rfl⟩
    · rw[show inB v 1 65520=false by simp[inB,h2]];go_enter func147,ntmps147;go_wp2;go_ret;exact⟨rfl,rfl⟩
  · rw[show inB v 1 65520=false by simp[inB,h1]];go_enter func147,ntmps147;go_wp2;go_ret;exact⟨rfl,rfl⟩
theorem zAF (v:Int) (w:World):Calls prog 37 #[.int .i64 v] w fun e w'=>e=.returned (.bool (inB v 1 65519))∧w'=w:=by
  by_cases h1:1≤v
  · by_cases h2:v≤65519
    · rw[show inB v 1 65519=true by simp[inB,h1,h2]];go_enter func37,ntmps37;go_wp2;go_ret;exact⟨rfl,rfl⟩
    · rw[show inB v 1 65519=false by simp[inB,h2]];go_enter func37,ntmps37;go_wp2;go_ret;exact⟨rfl,rfl⟩
  · rw[show inB v 1 65519=false by simp[inB,h1]];go_enter func37,ntmps37;go_wp2;go_ret;exact⟨rfl,rfl⟩
theorem zH6 (x y:Nat) (w:World) (hx:x≤65520) (hy:y≤65520):
    Calls prog 210 #[.agg #[.int .u64 (x:Int)],.agg #[.int .u64 (y:Int)]] w fun e w'=>e=.returned (.agg #[.int .u64 ((x*y % 65521:Nat):Int)])∧Below w.heap.size w w':=by
  have hxy:x*y≤65520*65520:=Nat.mul_le_mul hx hy;have exy:((x*y:Nat):Int)=(x:Int)*(y:Int):=Int.natCast_mul x y
  have h1:(x:Int)*(y:Int)≤4292870400:=by rw[← exy];omega
  have h0:0≤(x:Int)*(y:Int):=by rw[← exy];omega
  have E1:Hid ((x:Int)*(y:Int) % 65521=((x*y % 65521:Nat):Int)):=by show _=_;rw[Int.natCast_emod,exy];rfl
  clear hxy exy;go_enter func210,ntmps210;go_wp2;exact bodyPost_ret (v:=.agg #[.int .u64 ((x:Int)*(y:Int) % 65521)]) (by simp[results,results210,go_sem]) rfl ⟨by rw[E1.out],((zA _ _).alloc (by simp) _).alloc (by simp;omega) _⟩
theorem zMn (b e:Nat) (w:World) (hb:b≤65520) (he:e≤65521):
    Calls prog 185 #[.agg #[.int .u64 (b:Int)],.int .u64 (e:Int)] w fun x w'=>x=.returned (.agg #[.int .u64 ((powN b e:Nat):Int)])∧Below w.heap.size w w':=by
  obtain⟨R,HR⟩:∃ R,Hid (R=powN b e):=⟨_,rfl⟩;rw[← HR.out];obtain⟨H,HH⟩:∃ H,Hid (H=w.heap.size):=⟨_,rfl⟩;go_enter func185,ntmps185;go_wp2
  have HI:Hid (1*b ^ e % 65521=R):=by show _=_;rw[HR.out,Nat.one_mul];rfl
  go_loopw [7] (fun y wr=>∃ b' e' o:Nat,y=.int .u64 e'∧b'≤65520∧e'≤65521∧o≤65520∧o*b' ^ e' % 65521=R∧Arr wr (w.heap.size+1) 197 [.int .u64 0]∧Arr wr (w.heap.size+1+1) 197 [.int .u64 o]∧Arr wr (w.heap.size+1+1+1) 197 [.int .u64 b']∧Below w.heap.size w wr)
    (fun y _=>(intOf y).toNat)
  case atStart=>
    have a0:=zA w (.cells #[.int .u64 (b:Int)] 197);have A1:Arr _ _ _ _:=yr (w.alloc (.cells #[.int .u64 (b:Int)] 197)) [.int .u64 0] 197;have A2:=yr ((w.alloc (.cells #[.int .u64 (b:Int)] 197)).alloc (.cells #[.int .u64 0] 197)) [.int .u64 1] 197;have A3:=yr (((w.alloc (.cells #[.int .u64 (b:Int)] 197)).alloc (.cells #[.int .u64 0] 197)).alloc (.cells #[.int .u64 1] 197)) [.int .u64 (b:Int)] 197;simp only[zB] at A1 A2 A3;exact⟨b,e,1,rfl,hb,he,by decide,HI.out,Arr.old _ _ (Arr.old _ _ A1),Arr.old _ _ A2,A3,((a0.alloc (by simp) _).alloc (by simp;omega) _).alloc (by simp;omega) _⟩
  case round=>
    obtain⟨x,y,o,rfl,hx,hy,ho,hinv,A1,A2,A3,BW⟩:=hrel;have HV:Hid (o*x ^ y % 65521=R):=hinv;clear hinv hb he HI HR;have M1:=Nat.mod_lt (x*x) (show 0<65521 by decide);have M2:=Nat.mod_lt (o*x) (show 0<65521 by decide);have c1:=zQ (A1.cell 0) rfl;have c2:=zQ (A2.cell 0) rfl;have c3:=zQ (A3.cell 0) rfl;have f1:=A1.frozen;have f2:=A2.frozen;have f3:=A3.frozen
    by_cases h0:0<y
    · have h0I:(0:Int)<(y:Int):=by omega
      by_cases h1:y % 2=1
      · have h1I:(bits BinOp.and IntKind.u64 (y:Int) 1==1)=true:=by rw[zIg y (by omega),beq_iff_eq];omega
        have HS:Hid ((o*x % 65521)*(x*x % 65521) ^ (y / 2) % 65521=R):=by show _=_;rw[zJv o x y h1];exact HV.out
        clear h1;go_wp2_with fail;refine(zH6 o x wr ho hx).mono ?_;rintro e w1 ⟨rfl,hb1⟩;have B1:=yn BW hb1;obtain⟨o2,HO2⟩:∃ n,Hid (n=o*x % 65521):=⟨_,rfl⟩;rw[← HO2.out];have A1:=A1.stay hb1;have A2:=A2.stay hb1;have A3:=A3.stay hb1;have c1:=zQ (A1.cell 0) rfl;have c2:=zQ (A2.cell 0) rfl;have c3:=zQ (A3.cell 0) rfl;have f1:=A1.frozen;have f2:=A2.frozen;have f3:=A3.frozen;go_wp2_with fail;have A1:=A1.setOther (a:=⟨w.heap.size+1+1,0,none⟩) (by simp) (.int .u64 (o2:Int));have A2:=A2.set 0 (.int .u64 (o2:Int));have A3:=A3.setOther (a:=⟨w.heap.size+1+1,0,none⟩) (by simp) (.int .u64 (o2:Int));have B1:Below w.heap.size w (w1.setCell ⟨w.heap.size+1+1,0,none⟩ (.int .u64 (o2:Int))):=B1.setCell (by simp;omega) _;generalize w1.setCell ⟨w.heap.size+1+1,0,none⟩ (.int .u64 (o2:Int))=w2 at *;refine(zH6 x x _ hx hx).mono ?_;rintro e w3 ⟨rfl,hb3⟩;have B3:=yn B1 hb3;obtain⟨x2,HX2⟩:∃ n,Hid (n=x*x % 65521):=⟨_,rfl⟩;rw[← HX2.out];have A1:=A1.stay hb3;have A2:=A2.stay hb3;have A3:=A3.stay hb3;have c1:=zQ (A1.cell 0) rfl;have c2:=zQ (A2.cell 0) rfl;have c3:=zQ (A3.cell 0) rfl;have f1:=A1.frozen;have f2:=A2.frozen;have f3:=A3.frozen;go_wp2_with fail;refine⟨⟨x2,y / 2,o2,by rw[Int.natCast_ediv];rfl,by rw[HX2.out];omega,by omega,by rw[HO2.out];omega,by rw[HX2.out,HO2.out];exact HS.out,A1.setOther (by simp) _,A2.setOther (by simp) _,A3.set 0 _,B3.setCell (by simp;omega) _⟩,by simp[intOf];omega⟩
      · have h1I:(bits BinOp.and IntKind.u64 (y:Int) 1==1)=false:=by rw[zIg y (by omega),beq_eq_false_iff_ne];omega
        have HS:Hid (o*(x*x % 65521) ^ (y / 2) % 65521=R):=by show _=_;rw[zId o x y (by omega)];exact HV.out
        clear h1;go_wp2_with fail;refine(zH6 x x _ hx hx).mono ?_;rintro e w3 ⟨rfl,hb3⟩;have B3:=yn BW hb3;obtain⟨x2,HX2⟩:∃ n,Hid (n=x*x % 65521):=⟨_,rfl⟩;rw[← HX2.out];have A1:=A1.stay hb3;have A2:=A2.stay hb3;have A3:=A3.stay hb3;have c1:=zQ (A1.cell 0) rfl;have c2:=zQ (A2.cell 0) rfl;have c3:=zQ (A3.cell 0) rfl;have f1:=A1.frozen;have f2:=A2.frozen;have f3:=A3.frozen;go_wp2_with fail;refine⟨⟨x2,y / 2,o,by rw[Int.natCast_ediv];rfl,by rw[HX2.out];omega,by omega,ho,by rw[HX2.out];exact HS.out,A1.setOther (by simp) _,A2.setOther (by simp) _,A3.set 0 _,B3.setCell (by simp;omega) _⟩,by simp[intOf];omega⟩
    · have e0:y=0:=by omega
      subst e0
      have hR:R=o:=by rw[← HV.out,Nat.pow_zero,Nat.mul_one,Nat.mod_eq_of_lt (by omega)]
      go_wp2_with fail;exact bodyPost_ret (v:=.agg #[.int .u64 (o:Int)]) (by simp[results,results185,go_sem,c1]) rfl ⟨by rw[hR],BW.setCell (by simp) _⟩
theorem zIh (b e:Int) (w:World):
    Calls prog 148 #[.int .i64 b,.int .i64 e] w fun x w'=>x=.returned (.agg #[.int .i64 (poC b e),.int .i64 (poV b e)])∧Below w.heap.size w w':=by
  cases h1:inB b 1 65520
  · rw[show poC b e=3 by simp[poC,h1],show poV b e=0 by simp[poV,poC,h1]];go_enter func148,ntmps148;go_wp2_with fail;refine(zAV b _).mono ?_;rintro e w' ⟨rfl,rfl⟩;rw[h1];go_wp2;exact bodyPost_ret (v:=.agg #[.int .i64 3,.int .i64 0]) (by simp[results,results148,go_sem]) rfl ⟨rfl,zA _ _⟩
  · by_cases h2:e<0
    · have h2':inB e 0 65521=false:=by simp[inB];omega
      rw[show poC b e=3 by simp[poC,h1,h2'],show poV b e=0 by simp[poV,poC,h1,h2']];go_enter func148,ntmps148;go_wp2_with fail;refine(zAV b _).mono ?_;rintro e w' ⟨rfl,rfl⟩;rw[h1];go_wp2;exact bodyPost_ret (v:=.agg #[.int .i64 3,.int .i64 0]) (by simp[results,results148,go_sem]) rfl ⟨rfl,zA _ _⟩
    · by_cases h3:65521<e
      · have h2':inB e 0 65521=false:=by simp[inB];omega
        rw[show poC b e=3 by simp[poC,h1,h2'],show poV b e=0 by simp[poV,poC,h1,h2']];go_enter func148,ntmps148;go_wp2_with fail;refine(zAV b _).mono ?_;rintro e w' ⟨rfl,rfl⟩;rw[h1];go_wp2;exact bodyPost_ret (v:=.agg #[.int .i64 3,.int .i64 0]) (by simp[results,results148,go_sem]) rfl ⟨rfl,zA _ _⟩
      · have h2':inB e 0 65521=true:=by simp[inB];omega
        obtain⟨bn,rfl,hb1,hb2⟩:=zFZ h1 (by decide);obtain⟨en,rfl,-,he2⟩:=zFZ h2' (by decide);rw[show poC (bn:Int) (en:Int)=0 by simp[poC,h1,h2'],show poV (bn:Int) (en:Int)=(powN bn en:Nat) by simp[poV,poC,h1,h2']]
        have K:Hid (∀ w,Calls prog 185 #[.agg #[.int .u64 (bn:Int)],.int .u64 (en:Int)] w fun x w'=>x=.returned (.agg #[.int .u64 ((powN bn en:Nat):Int)])∧Below w.heap.size w w'):=fun w=>zMn bn en w (by omega) (by omega)
        have hR:=zGi bn en;generalize powN bn en=R at *;go_enter func148,ntmps148;go_wp2_with fail;refine(zAV _ _).mono ?_;rintro e w' ⟨rfl,hw⟩;subst hw;rw[h1];go_wp2_with fail;have A0:=yr w [.int .i64 0,.int .i64 0] 126;have B0:=zA w (.cells #[.int .i64 0,.int .i64 0] 126);refine(K.out _).mono ?_;rintro e w1 ⟨rfl,hb⟩;have A1:=A0.stay hb;have B1:=yn B0 hb;obtain⟨c0,c1⟩:=zc2 A1;have fz:=A1.frozen;have hlt:=A1.lt;have A2:=Arr.old _ (Obj.cells #[.int .u64 (R:Int)] 197) ((A1.set 0 (.int .i64 0)).set 1 (.int .i64 (R:Int)));have d0:=(A2.cell 0).trans (show _=some (.int .i64 0) from rfl);have d1:=(A2.cell 1).trans (show _=some (.int .i64 (R:Int)) from rfl);clear A0 B0 K hb A1 A2;go_wp2_with fail;refine bodyPost_ret (v:=.agg #[.int .i64 0,.int .i64 (R:Int)]) (by simp[results,results148,go_sem,d0,d1]) rfl ⟨rfl,?_⟩;exact((B1.setCell (yf _) _).setCell (yf _) _).alloc (by simpa using B1.size) _
theorem zLD (s:Int) (w:World):
    Calls prog 174 #[.int .i64 s] w fun x w'=>x=.returned (.agg #[.int .i64 (shC s),.int .i64 (shV s)])∧Below w.heap.size w w':=by
  cases h1:inB s 1 65519
  · rw[show shC s=3 by simp[shC,h1],show shV s=0 by simp[shV,shC,h1]];go_enter func174,ntmps174;go_wp2_with fail;refine(zAF s _).mono ?_;rintro e w' ⟨rfl,rfl⟩;rw[h1];go_wp2;exact bodyPost_ret (v:=.agg #[.int .i64 3,.int .i64 0]) (by simp[results,results174,go_sem]) rfl ⟨rfl,zA _ _⟩
  · have h2:1≤s∧s≤65519:=by simpa [inB] using h1
    have h3:inB s 0 65521=true:=by simp[inB];omega
    have e1:poC 17 s=0:=by simp[poC,h3,show inB 17 1 65520=true by decide]
    have K:Hid (∀ w,Calls prog 148 #[.int .i64 17,.int .i64 s] w fun x w'=>x=.returned (.agg #[.int .i64 0,.int .i64 (shV s)])∧Below w.heap.size w w'):=fun w=>by
      have h:=zIh 17 s w;rw[e1,show poV 17 s=shV s by simp[poV,e1,shV,shC,h1]] at h;exact h
    rw[show shC s=0 by simp[shC,h1]];clear h2 h3 e1;generalize shV s=V at *;have A0:=yr w [.int .i64 0,.int .i64 0] 126;have B0:=zA w (.cells #[.int .i64 0,.int .i64 0] 126);go_enter func174,ntmps174;go_wp2_with fail;refine(zAF _ _).mono ?_;rintro e w' ⟨rfl,hw⟩;subst hw;rw[h1];go_wp2_with fail;refine(K.out _).mono ?_;rintro e w1 ⟨rfl,hb⟩;have A1:=A0.stay hb;have B1:=yn B0 hb;obtain⟨c0,c1⟩:=zc2 A1;have fz:=A1.frozen;clear A0 B0 K hb A1;go_wp2_with fail;refine bodyPost_ret (v:=.agg #[.int .i64 0,.int .i64 V]) (by simp[results,results174,go_sem,c0,c1]) rfl ⟨rfl,?_⟩;exact(B1.setCell (yf _) _).setCell (yf _) _
theorem zLE (s b:Int) (w:World):
    Calls prog 106 #[.int .i64 s,.int .i64 b] w fun x w'=>x=.returned (.agg #[.int .i64 (sdC s b),.int .i64 (sdV s b)])∧Below w.heap.size w w':=by
  cases h1:inB s 1 65519
  · rw[show sdC s b=3 by simp[sdC,h1],show sdV s b=0 by simp[sdV,sdC,h1]];go_enter func106,ntmps106;go_wp2_with fail;refine(zAF s _).mono ?_;rintro e w' ⟨rfl,rfl⟩;rw[h1];go_wp2;exact bodyPost_ret (v:=.agg #[.int .i64 3,.int .i64 0]) (by simp[results,results106,go_sem]) rfl ⟨rfl,zA _ _⟩
  · cases h2:inB b 1 65520
    · rw[show sdC s b=3 by simp[sdC,h1,h2],show sdV s b=0 by simp[sdV,sdC,h1,h2]];go_enter func106,ntmps106;go_wp2_with fail;refine(zAF s _).mono ?_;rintro e w' ⟨rfl,hw⟩;subst hw;rw[h1];go_wp2_with fail;refine(zAV b _).mono ?_;rintro e w' ⟨rfl,hw⟩;subst hw;rw[h2];go_wp2;exact bodyPost_ret (v:=.agg #[.int .i64 3,.int .i64 0]) (by simp[results,results106,go_sem]) rfl ⟨rfl,zA _ _⟩
    · have h3:1≤s∧s≤65519:=by simpa [inB] using h1
      have h4:inB s 0 65521=true:=by simp[inB];omega
      have e1:poC b s=0:=by simp[poC,h4,h2]
      have e2:sdC s b=0:=by simp[sdC,h1,h2]
      have K:Hid (∀ w,Calls prog 148 #[.int .i64 b,.int .i64 s] w fun x w'=>x=.returned (.agg #[.int .i64 0,.int .i64 (sdV s b)])∧Below w.heap.size w w'):=fun w=>by
        have h:=zIh b s w;rw[e1,show poV b s=sdV s b by simp[poV,e1,sdV,e2]] at h;exact h
      rw[e2];clear h3 h4 e1 e2;generalize sdV s b=V at *;have A0:=yr w [.int .i64 0,.int .i64 0] 126;have B0:=zA w (.cells #[.int .i64 0,.int .i64 0] 126);go_enter func106,ntmps106;go_wp2_with fail;refine(zAF _ _).mono ?_;rintro e w' ⟨rfl,hw⟩;subst hw;rw[h1];go_wp2_with fail;refine(zAV b _).mono ?_;rintro e w' ⟨rfl,hw⟩;subst hw;rw[h2];go_wp2_with fail;refine(K.out _).mono ?_;rintro e w1 ⟨rfl,hb⟩;have A1:=A0.stay hb;have B1:=yn B0 hb;obtain⟨c0,c1⟩:=zc2 A1;have fz:=A1.frozen;clear A0 B0 K hb A1;go_wp2_with fail;refine bodyPost_ret (v:=.agg #[.int .i64 0,.int .i64 V]) (by simp[results,results106,go_sem,c0,c1]) rfl ⟨rfl,?_⟩;exact(B1.setCell (yf _) _).setCell (yf _) _
theorem zIi (v:Int) (w:World):
    Calls prog 109 #[.int .i64 v] w fun e w'=>∃ u,e=.returned (.agg #[.int .i64 (shbC v),u])∧Own w' w.heap.size u (shbL v)∧Below w.heap.size w w':=by
  cases h1:inB v 1 65520
  · rw[show shbC v=3 by simp[shbC,h1],show shbL v=[] by simp[shbL,shbC,h1]];go_enter func109,ntmps109;go_wp2_with fail;refine(zAV v _).mono ?_;rintro e w' ⟨rfl,rfl⟩;rw[h1];go_wp2;exact bodyPost_ret (v:=.agg #[.int .i64 3,.slice none 0 0]) (by simp[results,results109,go_sem]) rfl ⟨_,rfl,zO _ _,zA _ _⟩
  · obtain⟨vn,rfl,-,hb2⟩:=zFZ h1 (by decide);rw[show shbC (vn:Int)=0 by simp[shbC,h1],show shbL (vn:Int)=putB vn 2 by simp[shbL,shbC,h1]]
    have hl:(0:Int)≤(vn:Int) / 256:=by omega
    have hh:(vn:Int) / 256≤255:=by omega
    go_enter func109,ntmps109;go_wp2_with fail;refine(zAV _ _).mono ?_;rintro e w' ⟨rfl,hw⟩;subst hw;rw[h1];go_wp2_with fail;refine bodyPost_ret (v:=.agg #[.int .i64 0,.slice (some ⟨w.heap.size+1,0,none⟩) 2 2]) (by simp[results,results109,go_sem]) rfl ⟨_,rfl,?_,(zA _ _).alloc (by simp) _⟩;have h:=World.ownsRow_lit (base:=w.heap.size) (e:=5) (size:=1) (w.alloc (Obj.cells #[Value.int IntKind.i64 0,Value.slice (some { block:=w.heap.size+1,off:=0 }) 2 2] 129)) #[Value.int IntKind.u8 ((vn:Int) / 256),Value.int IntKind.u8 ((vn:Int) % 256)] 2 (by rw[zB];omega) (by unfold maxLen;decide) (by simp);rw[zB] at h
    have e:(putB vn 2).map u8v=[Value.int IntKind.u8 ((vn:Int) / 256),Value.int IntKind.u8 ((vn:Int) % 256)]:=by
      have e1:(((vn / 256 ^ 1 % 256) % 256:Nat):Int)=(vn:Int) / 256:=by rw[Nat.pow_one];omega
      have e2:(((vn / 256 ^ 0 % 256) % 256:Nat):Int)=(vn:Int) % 256:=by rw[Nat.pow_zero,Nat.div_one];omega
      simp only[putB,List.map_cons,List.map_nil,u8v,UInt8.toNat_ofNat'];rw[← e1,← e2]
    unfold Own;rw[zP,e];exact h
theorem zLF (p:Option Addr) (q:Nat) (d:List UInt8) (w:World) (hr:Rd w p q d):
    Calls prog 208 #[.slice p d.length q] w fun x w'=>x=.returned (.agg #[.int .i64 (bsC d),.int .i64 (bsV d)])∧Below w.heap.size w w':=by
  by_cases h:d.length=2
  · have d1:((d.length:Int) != 2)=false:=by rw[bne_eq_false_iff_eq];omega
    obtain⟨b,o,rfl,hc⟩:=hr.2.2.2 (by omega);have c0:=hc 0 (by omega);have c1:=hc 1 (by omega);rw[Nat.add_zero] at c0
    have l2:2≤d.length:=by omega
    have HB:Hid (bsC d=if inB (getB d:Nat) 1 65520 then 0 else 3):=by show _=_;rw[bsC,if_pos h]
    have HV:Hid (bsV d=if inB (getB d:Nat) 1 65520 then ((getB d:Nat):Int) else 0):=by
      show _=_
      rw[bsV,HB.out]
      cases inB ((getB d:Nat):Int) 1 65520 <;> simp
    have a0:=zDj d 0;have a1:=zDk d 0;have b0:=zDj d 1;have b1:=zDk d 1
    have HG:Hid (bits .or .i64 (at8 d 0*256) (at8 d 1)=((getB d:Nat):Int)):=by
      show _=_
      match d,h with
      | [x,y],_=>
        show bits .or .i64 ((x.toNat:Int)*256) (y.toNat:Int)=_
        rw[zNd _ _ x.toNat_lt y.toNat_lt];simp[getB]
    rw[HB.out,HV.out];clear HB HV h hc hr;generalize getB d=g at *;generalize d.length=n at *;generalize at8 d 0=x0 at *;generalize at8 d 1=x1 at *;have k0:=zN c0 (zA w (.cells #[.int .i64 0,.int .i64 0] 126));have k1:=zN c1 (zA w (.cells #[.int .i64 0,.int .i64 0] 126));clear c0 c1;cases h1:inB (g:Int) 1 65520
    · simp only[Bool.false_eq_true,if_false];go_enter func208,ntmps208;go_wp2_with fail
      go_quiet (fail)
      rw[HG.out];go_wp2_with fail;refine(zAV _ _).mono ?_;rintro e w' ⟨rfl,hw⟩;subst hw;rw[h1];go_wp2;refine bodyPost_ret (v:=.agg #[.int .i64 3,.int .i64 0]) (by simp[results,results208,go_sem]) rfl ⟨rfl,?_⟩;exact((below_drewN (zA w _) _).setCell (yf _) _).setCell (yf _) _
    · simp only[if_true];go_enter func208,ntmps208;go_wp2_with fail
      go_quiet (fail)
      rw[HG.out];go_wp2_with fail;refine(zAV _ _).mono ?_;rintro e w' ⟨rfl,hw⟩;subst hw;rw[h1];go_wp2;refine bodyPost_ret (v:=.agg #[.int .i64 0,.int .i64 (g:Int)]) (by simp[results,results208,go_sem]) rfl ⟨rfl,?_⟩;exact((below_drewN (zA w _) _).setCell (yf _) _).setCell (yf _) _
  · have d1:((d.length:Int) != 2)=true:=by rw[bne_iff_ne];omega
    rw[show bsC d=5 by simp[bsC,h],show bsV d=0 by simp[bsV,bsC,h]];clear h;go_enter func208,ntmps208;go_wp2;exact bodyPost_ret (v:=.agg #[.int .i64 5,.int .i64 0]) (by simp[results,results208,go_sem]) rfl ⟨rfl,zA _ _⟩
theorem Arr.only {w w':World} {g:Nat} {t:TypeId} {vs:List Value} {fp:List Nat} (h:Arr w g t vs) (ho:Only fp w w') (hn:g∉fp):Arr w' g t vs:=(ho.block g h.lt hn).trans h
theorem Cod.set {α:Type} (c:Cod α) {w:World} {B:Nat} {a:α} {us:List Value} {fp:List Nat} (h:c.own w B a us fp) {p:Addr} (hp:p.block<B) (u:Value):c.own (w.setCell p u) B a us fp:=
  c.fr h fun k hk=>heap_setCell_other _ _ k _ (by have:=(c.ins h k hk).1;omega)
theorem zt12 {α:Type} (c:Cod α) {w:World} {B k:Nat} {a:α} {us:List Value} {fp:List Nat} (h:c.own w B a us fp) (e:k<B) {i0 i1 i2 i3 i4 i5 i6 i7 i8 i9 i10 i11:Nat} {v0 v1 v2 v3 v4 v5 v6 v7 v8 v9 v10 v11:Value}:c.own ((((((((((((w.setCell ⟨k,i0,none⟩ v0).setCell ⟨k,i1,none⟩ v1).setCell ⟨k,i2,none⟩ v2).setCell ⟨k,i3,none⟩ v3).setCell ⟨k,i4,none⟩ v4).setCell ⟨k,i5,none⟩ v5).setCell ⟨k,i6,none⟩ v6).setCell ⟨k,i7,none⟩ v7).setCell ⟨k,i8,none⟩ v8).setCell ⟨k,i9,none⟩ v9).setCell ⟨k,i10,none⟩ v10).setCell ⟨k,i11,none⟩ v11) B a us fp:=(c.set (c.set (c.set (c.set (c.set (c.set (c.set (c.set (c.set (c.set (c.set (c.set h e v0) e v1) e v2) e v3) e v4) e v5) e v6) e v7) e v8) e v9) e v10) e v11)
theorem zt14 {α:Type} (c:Cod α) {w:World} {B k:Nat} {a:α} {us:List Value} {fp:List Nat} (h:c.own w B a us fp) (e:k<B) {i0 i1 i2 i3 i4 i5 i6 i7 i8 i9 i10 i11 i12 i13:Nat} {v0 v1 v2 v3 v4 v5 v6 v7 v8 v9 v10 v11 v12 v13:Value}:c.own ((((((((((((((w.setCell ⟨k,i0,none⟩ v0).setCell ⟨k,i1,none⟩ v1).setCell ⟨k,i2,none⟩ v2).setCell ⟨k,i3,none⟩ v3).setCell ⟨k,i4,none⟩ v4).setCell ⟨k,i5,none⟩ v5).setCell ⟨k,i6,none⟩ v6).setCell ⟨k,i7,none⟩ v7).setCell ⟨k,i8,none⟩ v8).setCell ⟨k,i9,none⟩ v9).setCell ⟨k,i10,none⟩ v10).setCell ⟨k,i11,none⟩ v11).setCell ⟨k,i12,none⟩ v12).setCell ⟨k,i13,none⟩ v13) B a us fp:=(c.set (c.set (c.set (c.set (c.set (c.set (c.set (c.set (c.set (c.set (c.set (c.set (c.set (c.set h e v0) e v1) e v2) e v3) e v4) e v5) e v6) e v7) e v8) e v9) e v10) e v11) e v12) e v13)
theorem zBd {w:World} {B:Nat} {z:Int} {k:IntKind}:(intC k).own w B z [.int k z] []:=⟨rfl,rfl⟩
theorem zGN {m:Nat}:∀ k,k∈([]:List Nat)→k<m:=fun _ h=>by cases h
theorem zJ6 {m:Nat}:∀ k,k∈([]:List Nat)→m≤k:=fun _ h=>by cases h
theorem zMI {f g:List Nat} {m:Nat} (h1:∀ k,k∈f→m≤k) (h2:∀ k,k∈g→m≤k):∀ k,k∈f++g→m≤k:=fun k hk=>(List.mem_append.1 hk).elim (h1 k) (h2 k)
theorem zB6 {w:World} {B:Nat} {u:Value} {bs:List UInt8} (h:Own w B u bs):bytC.own w B bs [u] u.ownBlock.toList:=⟨u,rfl,h,rfl⟩
theorem zCV {α β:Type} {c:Cod α} {d:Cod β} {w:World} {B:Nat} {a:α×β} {us ts:List Value} {f g:List Nat} (m:Nat) (h1:c.own w B a.1 us f) (h2:d.own w B a.2 ts g) (hf:∀ k,k∈f→k<m) (hg:∀ k,k∈g→m≤k):(zCI c d).own w B a (us++ts) (f++g):=
  ⟨us,ts,f,g,rfl,rfl,List.nodup_append.2 ⟨c.nd h1,d.nd h2,fun x hx y hy e=>by subst e;have:=hf x hx;have:=hg x hy;omega⟩,h1,h2⟩
abbrev zAB:=List UInt8×Int×Int
def helloC:Cod zAB:=zCI bytC (zCI (intC .i64) ((intC .i64)))
theorem zAY {w:World} {a:zAB} {vs:List Value} (h:helloC.rep w a vs):∃ p1 q1,vs=[.slice p1 a.1.length q1,.int .i64 a.2.1,.int .i64 a.2.2]∧Rd w p1 q1 a.1:=by
  obtain⟨us0,ts0,rfl,h0,us1,ts1,rfl,h1,h2⟩:=h;obtain⟨p1,q1,rfl,r1⟩:=h0;have e1:us1=[Value.int .i64 _]:=h1;subst e1;have e2:_=[Value.int .i64 _]:=h2;subst e2;exact⟨p1,q1,rfl,r1⟩
theorem zBw {w:World} {a:zAB} {p1:Option Addr} {q1:Nat} (r1:Rd w p1 q1 a.1):helloC.rep w a [.slice p1 a.1.length q1,.int .i64 a.2.1,.int .i64 a.2.2]:=⟨[.slice p1 a.1.length q1],_,rfl,⟨p1,q1,rfl,r1⟩,⟨[.int .i64 a.2.1],_,rfl,rfl,rfl⟩⟩
abbrev zDJ:=Int×zAB
def helloResultC:Cod zDJ:=zCI (intC .i64) helloC
theorem zBC {w:World} {a:zDJ} {vs:List Value} (h:helloResultC.rep w a vs):∃ p2_1 q2_1,vs=[.int .i64 a.1,.slice p2_1 a.2.1.length q2_1,.int .i64 a.2.2.1,.int .i64 a.2.2.2]∧Rd w p2_1 q2_1 a.2.1:=by
  obtain⟨us0,ts0,rfl,h0,h1⟩:=h;have e0:us0=[Value.int .i64 _]:=h0;subst e0;obtain⟨p2_1,q2_1,rfl,r2_1⟩:=zAY h1;exact⟨p2_1,q2_1,rfl,r2_1⟩
abbrev MsgD:=Int×List UInt8
def msgC:Cod MsgD:=zCI (intC .i64) bytC
theorem zAc {w:World} {a:MsgD} {vs:List Value} (h:msgC.rep w a vs):∃ p q,vs=[.int .i64 a.1,.slice p a.2.length q]∧Rd w p q a.2:=by
  obtain⟨us,ts,rfl,h1,p,q,rfl,r⟩:=h;exact⟨p,q,by rw[h1];rfl,r⟩
theorem zDp {w:World} {a:MsgD} {p:Option Addr} {q:Nat} (r:Rd w p q a.2):msgC.rep w a [.int .i64 a.1,.slice p a.2.length q]:=⟨[_],[_],rfl,rfl,p,q,rfl,r⟩
theorem zJ7 {w:World} {B:Nat} {a:MsgD} {vs:List Value} {fp:List Nat} (h:msgC.own w B a vs fp):∃ v,vs=[.int .i64 a.1,v]∧Own w B v a.2∧fp=v.ownBlock.toList:=by
  obtain⟨us,ts,f,g,rfl,rfl,_,⟨rfl,rfl⟩,v,rfl,o,rfl⟩:=h;exact⟨v,rfl,o,rfl⟩
theorem zAA {w:World} {B:Nat} {a:MsgD} {v:Value} (o:Own w B v a.2):msgC.own w B a [.int .i64 a.1,v] v.ownBlock.toList:=
  ⟨[_],[_],[],_,rfl,rfl,zAo _,⟨rfl,rfl⟩,v,rfl,o,rfl⟩
theorem zBM:(Tryz.prog.info? 46).map (fun i=>(i.zero,i.size,i.bytes))=some (some (.agg #[.int .i64 0,.slice none 0 0]),2,32):=by kernel_rfl
def zBD (l:List MsgD):Nat:=(l.map (fun a=>a.2.length)).sum+l.length
theorem zGp {l:List MsgD} {i:Nat} {a:MsgD} (h:l[i]?=some a):a.2.length≤zBD l:=by
  have hm:=List.mem_of_getElem? h
  have h2:∀ l:List MsgD,a∈l→a.2.length≤(l.map (fun a:MsgD=>a.2.length)).sum:=fun l=>by
    induction l with
    | nil=>intro h;cases h
    | cons b l ih=>
      intro h;rw[List.map_cons,List.sum_cons];rcases List.mem_cons.1 h with rfl | h
      · omega
      · have:=ih h;omega
  have:=h2 l hm;unfold zBD;omega
theorem zCh (a:MsgD) (l:List MsgD):zBD (a :: l)=a.2.length+1+zBD l:=by simp[zBD];omega
end Go.Proofs.YtiabacnmmojfjaaGreatDoor
