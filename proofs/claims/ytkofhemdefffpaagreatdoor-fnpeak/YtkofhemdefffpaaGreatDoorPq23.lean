/-.-/
import Derived.Test.YtkofhemdefffpaaGreatDoorPq22
import Derived.Lib.AppendStr
set_option linter.unusedVariables false
set_option maxHeartbeats 6400000
set_option maxRecDepth 100000
namespace Go.Proofs.YtkofhemdefffpaaGreatDoor
open Go.RowKit
theorem plc1_any (g:Nat)(w:World):Calls Tryz.prog 192 #[h3 g 0] w fun e w'=>e = .returned (h3 g 1)/\w'=w:=by
 go_enter Tryz.func192,Tryz.ntmps192;go_wp2;go_ret;exact⟨rfl,rfl⟩
theorem plc2_any (g:Nat)(w:World):Calls Tryz.prog 183 #[h3 g 0] w fun e w'=>e = .returned (h3 g 2)/\w'=w:=by
 go_enter Tryz.func183,Tryz.ntmps183;go_wp2;go_ret;exact⟨rfl,rfl⟩
theorem plc3_any (g:Nat)(w:World):Calls Tryz.prog 184 #[h3 g 0] w fun e w'=>e = .returned (h3 g 3)/\w'=w:=by
 go_enter Tryz.func184,Tryz.ntmps184;go_wp2;go_ret;exact⟨rfl,rfl⟩
theorem plc4_any (g:Nat)(w:World):Calls Tryz.prog 185 #[h3 g 0] w fun e w'=>e = .returned (h3 g 4)/\w'=w:=by
 go_enter Tryz.func185,Tryz.ntmps185;go_wp2;go_ret;exact⟨rfl,rfl⟩
theorem plc5_any (g:Nat)(w:World):Calls Tryz.prog 186 #[h3 g 0] w fun e w'=>e = .returned (h3 g 5)/\w'=w:=by
 go_enter Tryz.func186,Tryz.ntmps186;go_wp2;go_ret;exact⟨rfl,rfl⟩
theorem plc6_any (g:Nat)(w:World):Calls Tryz.prog 193 #[h3 g 0] w fun e w'=>e = .returned (h3 g 6)/\w'=w:=by
 go_enter Tryz.func193,Tryz.ntmps193;go_wp2;go_ret;exact⟨rfl,rfl⟩
theorem plc9_any (g:Nat)(w:World):Calls Tryz.prog 191 #[h3 g 0] w fun e w'=>e = .returned (h3 g 9)/\w'=w:=by
 go_enter Tryz.func191,Tryz.ntmps191;go_wp2;go_ret;exact⟨rfl,rfl⟩
theorem plc10_any (g:Nat)(w:World):Calls Tryz.prog 195 #[h3 g 0] w fun e w'=>e = .returned (h3 g 10)/\w'=w:=by
 go_enter Tryz.func195,Tryz.ntmps195;go_wp2;go_ret;exact⟨rfl,rfl⟩
theorem plc11_any (g:Nat)(w:World):Calls Tryz.prog 196 #[h3 g 0] w fun e w'=>e = .returned (h3 g 11)/\w'=w:=by
 go_enter Tryz.func196,Tryz.ntmps196;go_wp2;go_ret;exact⟨rfl,rfl⟩
theorem plc12_any (g:Nat)(w:World):Calls Tryz.prog 197 #[h3 g 0] w fun e w'=>e = .returned (h3 g 12)/\w'=w:=by
 go_enter Tryz.func197,Tryz.ntmps197;go_wp2;go_ret;exact⟨rfl,rfl⟩
theorem plc13_any (g:Nat)(w:World):Calls Tryz.prog 194 #[h3 g 0] w fun e w'=>e = .returned (h3 g 13)/\w'=w:=by
 go_enter Tryz.func194,Tryz.ntmps194;go_wp2;go_ret;exact⟨rfl,rfl⟩
def plcO (o:Nat):Bool:=(1<=o&&o<=6)||(9<=o&&o<=13)
theorem plc_any (o g:Nat)(w:World)(h:plcO o=true):Calls Tryz.prog (plcV o) #[h3 g 0] w fun e w'=>e = .returned (h3 g o)/\w'=w:=by
 rcases(show o=1\/o=2\/o=3\/o=4\/o=5\/o=6\/o=9\/o=10\/o=11\/o=12\/o=13 by simp[plcO] at h;omega) with rfl|rfl|rfl|rfl|rfl|rfl|rfl|rfl|rfl|rfl|rfl
 ·exact plc1_any g w
 ·exact plc2_any g w
 ·exact plc3_any g w
 ·exact plc4_any g w
 ·exact plc5_any g w
 ·exact plc6_any g w
 ·exact plc9_any g w
 ·exact plc10_any g w
 ·exact plc11_any g w
 ·exact plc12_any g w
 ·exact plc13_any g w
end Go.Proofs.YtkofhemdefffpaaGreatDoor
namespace Go.Proofs.YtkofhemdefffpaaGreatDoor
open Go.RowKit Go.Extern.Stop Go.Stop Go.Extern
set_option linter.unusedVariables false
def ErrT (w:World):Prop:=w.cell? ⟨1,0,none⟩=some (.iface 224 (.agg #[.pointer (some ⟨2,127,none⟩)]))
theorem gx {B:Nat}{w w':World}(h:ErrT w)(K:Below B w w')(hB:w.heap.size<=B):ErrT w':=
 (K.cell (p:=⟨_,0,none⟩) (yK (yL w _ h) hB)).trans h
theorem as_hit (hg:Nat)(c k:Int)(x0 x1:Value)(w:World)(F:ErrT w)(hf0:w.cell? ⟨hg,0,none⟩=some x0)(bT:w.cell? ⟨hg,1,none⟩=some x1)
  (ub:w.frozen? ⟨hg,0,none⟩=false) (xX:w.frozen? ⟨hg,1,none⟩=false) :
  Calls Tryz.prog 90 #[.iface 152 (.agg #[H c,H k]),.iface 154 (.pointer (some ⟨hg,0,none⟩))] w fun ev w'=>ev = .returned (.bool true) /\
   w'=(((((w.alloc (.cells #[.pointer (some ⟨hg,0,none⟩)] 154)).alloc (.cells #[.pointer (some ⟨2,154,none⟩),.pointer (some ⟨w.heap.size,0,none⟩),.int .u64 150] 183)).alloc
    (.cells #[.pointer (some ⟨2,154,none⟩),.pointer (some ⟨w.heap.size,0,none⟩),.int .u64 150] 183)).alloc (.cells #[H c,H k] 152)).setCell ⟨hg,0,none⟩ (H c)).setCell ⟨hg,1,none⟩ (H k):=by
 have e1:=@run_callFunc_extern Tryz.prog 113 _ (fun args=>ReflectliteValue.unpack (args.getD 0 (.tuple #[]))) Tryz.func113 (by kernel_rfl) (by kernel_rfl) (by kernel_rfl) (by kernel_rfl);have e2:=@run_callFunc_extern Tryz.prog 114 _ (ReflectliteValue.methodAny (ReflectliteValue.valueError "reflectlite.Value.Type" 0) (fun t _ _ _=>ReflectliteType.toType t)) Tryz.func114 (by kernel_rfl) (by kernel_rfl) (by kernel_rfl) (by kernel_rfl);have e3:=@run_callFunc_extern Tryz.prog 115 _ (ReflectliteValue.method (ReflectliteValue.valueError "reflectlite.Value.IsNil" 0) ReflectliteValue.isNil) Tryz.func115 (by kernel_rfl) (by kernel_rfl) (by kernel_rfl) (by kernel_rfl);have e4:=@run_callFunc_extern Tryz.prog 229 _ (ReflectliteType.abiMethod fun t=>do pure (.int .u8 (<- Rtype.kind t))) Tryz.func229 (by kernel_rfl) (by kernel_rfl) (by kernel_rfl) (by kernel_rfl);have e5:=@run_callFunc_extern Tryz.prog 242 _ (ReflectliteType.method ReflectliteType.elem) Tryz.func242 (by kernel_rfl) (by kernel_rfl) (by kernel_rfl) (by kernel_rfl);have e6:=@run_callFunc_extern Tryz.prog 243 _ (ReflectliteType.relation "Implements" ReflectliteType.implements_) Tryz.func243 (by kernel_rfl) (by kernel_rfl) (by kernel_rfl) (by kernel_rfl);have e7:=@run_callFunc_extern Tryz.prog 137 _ ReflectliteType.typeOf Tryz.func137 (by kernel_rfl) (by kernel_rfl) (by kernel_rfl) (by kernel_rfl);have e8:=@run_callFunc_extern Tryz.prog 240 _ (ReflectliteType.relation "AssignableTo" ReflectliteType.assignableTo) Tryz.func240 (by kernel_rfl) (by kernel_rfl) (by kernel_rfl) (by kernel_rfl);have e9:=@run_callFunc_extern Tryz.prog 138 _ (ReflectliteValue.method (ReflectliteValue.valueError "reflectlite.Value.Elem" 0) ReflectliteValue.elem) Tryz.func138 (by kernel_rfl) (by kernel_rfl) (by kernel_rfl) (by kernel_rfl);have vQ:=@run_callFunc_extern Tryz.prog 139 _ ReflectliteValue.set Tryz.func139 (by kernel_rfl) (by kernel_rfl) (by kernel_rfl) (by kernel_rfl);have tO:=typeOfF;have mA:=methodAssignableTo;have aF:=assignableF;have vF:=valueOfF;have vP:=valueOfP;have tP:=typeP;have mK:=methodKind;have mE:=methodElem;have mI:=methodImplements;have kP:=kindP;have kF:=kindF;have lP:=elemP;have iF:=implementsF;have kg:hg < w.heap.size:=yL w _ hf0;have hEl:1 < w.heap.size:=yL w _ F;have n8:=isNilP ⟨w.heap.size,0,none⟩ ⟨hg,0,none⟩ ((w.alloc (.cells #[.pointer (some ⟨hg,0,none⟩)] 154)).alloc (.cells #[.pointer (some ⟨2,154,none⟩),.pointer (some ⟨w.heap.size,0,none⟩),.int .u64 150] 183)) (by simp)
 have vn:((w.alloc (.cells #[.pointer (some ⟨hg,0,none⟩)] 154)).alloc (.cells #[.pointer (some ⟨2,154,none⟩),.pointer (some ⟨w.heap.size,0,none⟩),.int .u64 150] 183)).cell? ⟨1,0,none⟩=some (.iface 224 (.agg #[.pointer (some ⟨2,127,none⟩)])):=by
  rw[yW _ _ ⟨1,0,none⟩ (by simp <;> omega),yW _ _ ⟨1,0,none⟩ hEl];exact F
 have el:=elemVP ⟨w.heap.size,0,none⟩ ⟨hg,0,none⟩ (((w.alloc (.cells #[.pointer (some ⟨hg,0,none⟩)] 154)).alloc (.cells #[.pointer (some ⟨2,154,none⟩),.pointer (some ⟨w.heap.size,0,none⟩),.int .u64 150] 183)).alloc (.cells #[.pointer (some ⟨2,154,none⟩),.pointer (some ⟨w.heap.size,0,none⟩),.int .u64 150] 183)) (by rw[yW _ _ ⟨w.heap.size,0,none⟩ (by simp;omega)];simp)
 have st:=setF hg (w.heap.size+1+1+1) c k x0 x1 ((((w.alloc (.cells #[.pointer (some ⟨hg,0,none⟩)] 154)).alloc (.cells #[.pointer (some ⟨2,154,none⟩),.pointer (some ⟨w.heap.size,0,none⟩),.int .u64 150] 183)).alloc (.cells #[.pointer (some ⟨2,154,none⟩),.pointer (some ⟨w.heap.size,0,none⟩),.int .u64 150] 183)).alloc (.cells #[H c,H k] 152))
  (by rw[World.cell?_alloc_at _ _ _ _ (by simp)];rfl) (by rw[World.cell?_alloc_at _ _ _ _ (by simp)];rfl)
  (by rw[yW _ _ ⟨hg,0,none⟩ (by simp;omega),yW _ _ ⟨hg,0,none⟩ (by simp;omega),yW _ _ ⟨hg,0,none⟩ (by simp;omega),yW _ _ ⟨hg,0,none⟩ kg];exact hf0)
  (by rw[yW _ _ ⟨hg,1,none⟩ (by simp;omega),yW _ _ ⟨hg,1,none⟩ (by simp;omega),yW _ _ ⟨hg,1,none⟩ (by simp;omega),yW _ _ ⟨hg,1,none⟩ kg];exact bT)
  (by rw[World.frozen?_alloc_old _ _ ⟨hg,0,none⟩ (by simp;omega),World.frozen?_alloc_old _ _ ⟨hg,0,none⟩ (by simp;omega),World.frozen?_alloc_old _ _ ⟨hg,0,none⟩ (by simp;omega),World.frozen?_alloc_old _ _ ⟨hg,0,none⟩ (Nat.ne_of_lt kg)];exact ub)
  (by rw[World.frozen?_alloc_old _ _ ⟨hg,1,none⟩ (by simp;omega),World.frozen?_alloc_old _ _ ⟨hg,1,none⟩ (by simp;omega),World.frozen?_alloc_old _ _ ⟨hg,1,none⟩ (by simp;omega),World.frozen?_alloc_old _ _ ⟨hg,1,none⟩ (Nat.ne_of_lt kg)];exact xX)
 clear hf0 bT ub xX F;go_enter Tryz.func90,Tryz.ntmps90;go_wp2;refine wp_loop_rounds 1 ?_;rw[rounds_succ];go_wp2;go_ret;exact⟨rfl,rfl⟩
end Go.Proofs.YtkofhemdefffpaaGreatDoor
namespace Go.Proofs.YtkofhemdefffpaaGreatDoor
open Go.RowKit
theorem eF (n:Int)(w:World)(h0:-9223372036854775808<=n)(Z:n<=9223372036854775807) :
  Calls Tryz.prog 41 #[H n] w fun e w'=>∃v,e=yn v/\OwnT w.heap.size w' v (putU (zz n))/\yp w w':=by
 obtain⟨i0,hi,ub,xX,uh⟩:=info_parts Tryz.infoByte;have HL:=U (zH _ (dy n h0 Z));have HX:=U (not_eq n h0);have HY:=U (fun h=>twice_eq n h Z);clear h0 Z;rcases Int.lt_or_le n 0 with hn|hn
 all_goals go_enter Tryz.func41,Tryz.ntmps41
 all_goals go_wp2_with fail
 all_goals first|rw[O HX hn]|rw[O HY hn]
 all_goals clear HX HY
 all_goals generalize hz:zz n=u0 at *
 all_goals have HZ:=U hz
 all_goals clear hz
 all_goals go_loopw [3,4] (fun u v wr=>∃(x:Nat) (done:List Int),u = .int .u64 x/\done++putU x=putU u0/\wr.ownsRow w.heap.size 5 1 v done.length (done.map (Value.int .u8))/\yp w wr/\w.heap.size<wr.heap.size) (fun u _ _=>(intOf u).toNat)
 case atStart=>exact⟨u0,[],rfl,rfl,World.ownsRow_made _ _ _ yb (by decide) rfl,mc _ _,by simp⟩
 case atStart=>exact⟨u0,[],rfl,rfl,World.ownsRow_made _ _ _ yb (by decide) rfl,mc _ _,by simp⟩
 all_goals
  obtain⟨x,done,rfl,oe,xu,xl,ko⟩:=hrel;have HD:=U oe;have hdl:=putU_at (O HL) oe;clear oe
  by_cases xK:x<128
  ·have HE:=U (putU_end xK (O HD));go_wp2_with (at_builtin;go_must (refine wpList_append_own _ rfl _ _ 22 rfl w.heap.size 5 i0 (.int .u8 0) 1 1 Tryz.underlying22 hi ub xX uh rfl (by decide) _ _ _ rfl (xu.alloc _) (yr wr 0) 1 1 [.int .u8 (x:Int)] rfl rfl (cell_one_new _ _ _) (by simp[Value.oneCell']) (by unfold maxLen;omega) (by omega) (by simp;omega) ?_);intro v' w1 vr uq _);go_ret;exact⟨_,rfl,ownT_done vr ((O HE).trans (congrArg putU (O HZ).symm)) (by rw[O HZ];have:=O HL;omega),fV xl xu (by omega) uq⟩
  ·have ux:(128:Int)<=x:=by omega
   have hor:=or128 x;go_wp2_with (at_builtin;go_must (refine wpList_append_own _ rfl _ _ 22 rfl w.heap.size 5 i0 (.int .u8 0) 1 1 Tryz.underlying22 hi ub xX uh rfl (by decide) _ _ _ rfl (xu.alloc _) (yr wr 0) 1 1 [.int .u8 ((x:Int) % 128+128)] rfl rfl (cell_one_new _ _ _) (by simp[Value.oneCell']) (by unfold maxLen;omega) (by omega) (by simp;omega) ?_);intro v' w1 vr uq _);go_roundw
   case rel=>exact⟨x / 128,done ++ [(x:Int) % 128+128],by go_num,putU_step xK (O HD),own_push vr,fV xl xu (by omega) uq,size_push ko uq⟩
   case measure=>simp[intOf];omega
theorem codeOf_any (c k:Int)(w:World)(F:ErrT w) :
  Calls Tryz.prog 70 #[dM c k] w fun e w'=>e = .returned (H c)/\yp w w':=by
 have HG:=U (gx F ((Below.refl _ w).alloc yb (.cells #[H 0,H 0] 152)) yb);clear F;unfold dM;go_enter Tryz.func70,Tryz.ntmps70;go_wp2_with fail;refine(as_hit w.heap.size c k (H 0) (H 0) _ (O HG) (by simp) (by simp) (by simp) (by simp)).mono ?_;rintro e w1 ⟨rfl,pH⟩
 have jT:w1.cell? ⟨w.heap.size,0,none⟩=some (H c):=by
  rw[pH,yM _ _ _ _ (zV (by omega))];refine yN _ _ _ (u:=H 0) ?_;rw[yW _ _ ⟨w.heap.size,0,none⟩ (by simp;omega),yW _ _ ⟨w.heap.size,0,none⟩ (by simp;omega),yW _ _ ⟨w.heap.size,0,none⟩ (by simp;omega),yW _ _ ⟨w.heap.size,0,none⟩ (by simp)];simp
 have K:Hid (yp w w1):=by
  rw[pH];exact((((((Below.refl _ w).alloc yb _).alloc (by simp) _).alloc (by simp;omega) _).alloc (by simp;omega) _).alloc (by simp;omega) _ |>.setCell (p:=⟨w.heap.size,0,none⟩) yb _).setCell (p:=⟨w.heap.size,1,none⟩) yb _
 clear pH;go_wp2_with fail;go_ret;exact⟨rfl,O K⟩
theorem number_empty (B:Nat)(w:World)(a:Option Addr)(cap:Nat)(hr:Rdr B w (.slice a 0 cap) 0) :
  Calls Tryz.prog 73 #[.pointer (some ⟨B,0,none⟩)] w fun e w'=>NumEnd B (.slice a 0 cap) w none e w':=by
 go_enter Tryz.func73,Tryz.ntmps73;go_wp2_with fail;refine wp_loop_rounds 1 ?_;rw[rounds_succ];go_wp2_with fail;refine(iO B 1 0 a 0 cap _ hr (by omega) (by omega) (by omega) (by omega) (by omega)).mono ?_;rintro e w1 ⟨rfl,q,rfl⟩;go_wp2_with fail;exact⟨rfl,lw (ef _ _ _) rfl _⟩
theorem number_any (B:Nat)(v:Value)(l:List Int)(k:Nat)(w w0:World)(xY:Rd w v l)(xW:∀a n c,v = .slice a n c->n<=c)(kA:w.heap.size<=B)(xl:yp w w0)(hr:Rdr B w0 v k)(E:k<=l.length)(hl:l.length<=65536)(K:Bts l) :
  Calls Tryz.prog 73 #[.pointer (some ⟨B,0,none⟩)] w0 fun e w'=>NumEnd B v w0 (getU l k) e w':=by
 have hrd0:=fx xY xl yb;obtain⟨a,cap,rfl,_,hc⟩:=hrd0;obtain⟨a',jd,e',_,hc'⟩:=xY
 by_cases xE:l = []
 ·subst xE;obtain rfl:k=0:=by simpa using E
  have:getU [] 0=none:=rfl;rw[this];exact number_empty B w0 a cap hr
 ·obtain⟨b,off,rfl,xp⟩:=hc xE
  have xK:b<w.heap.size:=by
   simp only[Value.slice.injEq] at e';obtain⟨rfl,_,rfl⟩:=e';obtain⟨b2,o2,e2,pC⟩:=hc' xE;simp only[Option.some.injEq,Addr.mk.injEq] at e2;obtain⟨rfl,rfl,_⟩:=e2;have hp:0<l.length:=List.length_pos_iff.2 xE;exact yL w _ (pC 0 hp)
  exact number_some B w0 b off cap k l hr E hl (xW _ _ _ rfl) (by omega) xp K
theorem take_zero (B:Nat)(k:Nat)(a:Option Addr)(len cap:Nat)(w:World)(hr:Rdr B w (.slice a len cap) k)(Z:k<=len)(hl:len<=1073741824)(xW:len<=cap) :
  Calls Tryz.prog 71 #[.pointer (some ⟨B,0,none⟩),H 0] w fun e w'=>(∃a' c',e = .returned (.slice a' 0 c'))/\∃q,w'=(w.setCell ⟨B,1,none⟩ (H k)).drewN q:=by
 obtain⟨c1,c2,c3⟩:=hr;have h1':(k:Int)<=len:=by omega
 have ah:¬ ((len:Int)-k<0):=by omega
 have h3':(k:Int)<=cap:=by omega
 go_enter Tryz.func71,Tryz.ntmps71;go_wp2_with fail;go_quiet (fail);go_wp2_with fail;go_quiet (fail);go_wp2_with fail
 all_goals go_ret
 all_goals exact⟨⟨_,_,by simp;exact⟨rfl,rfl⟩⟩,_,rfl⟩
def eg (l:List Int)(k:Nat):Option (ByteArray × Nat):=
 match getU l k with
 | none=>none
 | some (u,n)=>if unz u<0\/13<unz u\/(l.length:Int)-n<unz u then none else some (strB ((l.drop n).take (unz u).toNat),n+(unz u).toNat)
theorem textA_no {l:List Int}{k:Nat}(h:getU l k=none):eg l k=none:=by unfold eg;rw[h]
theorem textA_bad {l:List Int}{k u n:Nat}(h:getU l k=some (u,n))(K:unz u<0\/13<unz u\/(l.length:Int)-n<unz u):eg l k=none:=by
 unfold eg;rw[h];simp only;rw[if_pos K]
theorem textA_yes {l:List Int}{k u n:Nat}(h:getU l k=some (u,n))(K:¬ (unz u<0\/13<unz u\/(l.length:Int)-n<unz u)) :
  eg l k=some (strB ((l.drop n).take (unz u).toNat),n+(unz u).toNat):=by
 unfold eg;rw[h];simp only;rw[if_neg K]
theorem io:∀(f i u:Nat) (l:List Int) (k v n:Nat),scan l k f i u=some (v,n)->n<=l.length/\k<=n
 | 0,_,_,_,_,_,_,h=>by simp[scan] at h
 | f+1,i,u,l,k,v,n,h=>by
  rw[scan] at h;split at h
  ·cases h
  ·split at h
   ·cases h
   ·split at h
    ·simp only[Option.some.injEq,Prod.mk.injEq] at h;omega
    ·exact io f (i+1) _ l k v n h
def TxtEnd (B:Nat)(v:Value)(w:World)(r:Option (ByteArray × Nat))(e:Ending)(w':World):Prop:=
 w.grownBy w' (some B)/\(∀s next,r=some (s,next)->e = .returned (yl s)/\Rdr B w' v next)/\(r=none->∃p,e = .panicked (ey 3 p))
theorem lO {B:Nat}{v:Value}{w w':World}{r:Option (ByteArray × Nat)}(F:w.grownBy w' (some B))(hr:r=none)(p:Int):TxtEnd B v w r (.panicked (ey 3 p)) w':=
 ⟨F,(fun _ _ h=>by rw[hr] at h;cases h),fun _=>⟨p,rfl⟩⟩
theorem piece_rd {w:World}{b off cap n c:Nat}{l:List Int}(h:∀i,i<l.length->w.cell? ⟨b,off+i,none⟩=some (.int .u8 (l.getD i 0)))(hn:n+c<=l.length)(hl:l.length<=65536) :
  Rd w (.slice (some ⟨b,off+n,none⟩) c cap) ((l.drop n).take c):=by
 have xC:((l.drop n).take c).length=c:=by rw[List.length_take,List.length_drop];omega
 refine⟨_,cap,by rw[xC],by omega,fun _=>⟨b,off+n,rfl,fun i hi=>?_⟩⟩;rw[xC] at hi;have:=h (n+i) (by omega);rw[Nat.add_assoc,this];have e:((l.drop n).take c).getD i 0=l.getD (n+i) 0:=by simp[hi,List.getElem?_drop]
 rw[e]
theorem txtEnd_done {B:Nat}{v:Value}{w w':World}{r:Option (ByteArray × Nat)}{s:ByteArray}{n:Nat}(F:w.grownBy w' (some B))(hr:r=some (s,n))(h:Rdr B w' v n):TxtEnd B v w r (.returned (yl s)) w':=
 ⟨F,(fun a b h'=>by rw[hr] at h';cases h';exact⟨rfl,h⟩),(fun h'=>by rw[hr] at h';cases h')⟩
theorem text_any (B:Nat)(v:Value)(l:List Int)(k:Nat)(w w0:World)(xY:Rd w v l)(xW:eJ v)(kA:w.heap.size<=B)(xl:yp w w0)(hr:Rdr B w0 v k)(E:k<=l.length)(hl:l.length<=65536)(K:Bts l) :
  Calls Tryz.prog 211 #[.pointer (some ⟨B,0,none⟩)] w0 fun e w'=>TxtEnd B v w0 (eg l k) e w':=by
 have HN:=U (number_any B v l k w w0 xY xW kA xl hr E hl K);have HRd:=U xY;have HBl:=U xl;have hv:=fi xY;have HCap:=U xW;clear xY xl hr xW;go_enter Tryz.func211,Tryz.ntmps211;go_wp2_with fail;refine(O HN).mono ?_;rintro e w1 hN;cases F:getU l k with
 | none =>
  obtain⟨p,rfl⟩:=hN.2.2 F;have HG:=U hN.1;have HT:=U (textA_no F);clear hN F;go_wp2_with fail;exact⟨rfl,lO (O HG) (O HT) _⟩
 | some x =>
  obtain⟨u,n⟩:=x;obtain⟨rfl,cW⟩:=hN.2.1 u n F;have HG:=U hN.1;have cK:=U cW;have uJ:=io 10 0 0 l k u n F;have bm:=U (fun h=>textA_bad F h);have qL:=U (fun h=>textA_yes F h);clear hN cW F;generalize unz u=z at *;obtain⟨hn1,hn2⟩:=uJ
  by_cases qM:z<0\/13<z
  ·have HT:=U (O bm (by omega));rcases(show z<0\/(0<=z/\13<z) by omega) with Z|⟨Z,Q⟩
   all_goals
    clear qM;go_wp2_with fail;refine(fu B 3 _ _ _ (O cK)).mono ?_;rintro e w2 ⟨rfl,rfl⟩;go_wp2_with fail;exact⟨rfl,lO (O HG) (O HT) _⟩
  ·obtain⟨c,rfl⟩:=Int.eq_ofNat_of_zero_le (show 0<=z by omega);have hc13:(c:Int)<=13:=by omega
   clear qM;obtain⟨a,cap,kH⟩:=hv
   by_cases hlong:(l.length:Int)-n<c
   ·have HT:=U (O bm (by omega));rw[kH] at cK;go_wp2_with fail;refine(iO B c n a l.length cap _ (O cK) (by omega) (by omega) (by omega) hlong (by omega)).mono ?_;rintro e w2 ⟨rfl,q,rfl⟩;go_wp2_with fail;exact⟨rfl,lO (zr (O HG) (ef _ _ _)) (O HT) _⟩
   ·have HY:=U (O qL (by omega));rw[Int.toNat_natCast] at HY;rw[kH] at cK
    by_cases jT:c=0
    ·subst jT;go_wp2_with fail;refine(take_zero B n a l.length cap _ (O cK) (by omega) (by omega) ((O HCap) _ _ _ kH)).mono ?_;rintro e w2 ⟨⟨a',c',rfl⟩,q,rfl⟩;have hcv:=fun W=>conv_text (.slice a' 0 c') [] W ⟨a',c',rfl,by simp,fun h=>absurd rfl h⟩;have HRw:=U (((O cK).step (n:Int)).drewN q);have HGw:=U (zr (O HG) (zr (fI w1 ⟨B,1,none⟩ (H (n:Int))) (ef _ q _)));have HY':Hid (eg l k=some (strB [],n)):=O HY;generalize strB []=s at *;have HVA:=U kH;clear kH;go_wp2_with fail;go_ret;exact txtEnd_done (O HGw) (O HY') (by rw[O HVA];exact O HRw)
    ·have xE:l ≠ []:=by intro h;rw[h] at hn1 hlong;simp at hn1 hlong;omega
     obtain⟨a2,cap2,e2,_,xp⟩:=O HRd;rw[kH] at e2;simp only[Value.slice.injEq,true_and] at e2;obtain⟨rfl,rfl⟩:=e2;obtain⟨b,off,rfl,xo⟩:=xp xE;have oY:b<w.heap.size:=yL w _ (xo 0 (List.length_pos_iff.2 xE))
     have bS:∀i,i<l.length->w1.cell? ⟨b,off+i,none⟩=some (.int .u8 (l.getD i 0)):=fun i hi =>
      (O HG).cell (((O HBl).cell (p:=⟨b,off+i,none⟩) oY).trans (xo i hi)) (by show some b≠some B;intro e;injection e;omega)
     go_wp2_with fail;refine(take_ok B c n b off l.length cap _ (O cK) (by omega) (by omega) ((O HCap) _ _ _ kH) (by omega)).mono ?_;rintro e w2 ⟨rfl,q,rfl⟩
     have hcl2:∀i,i<l.length->((w1.setCell ⟨B,1,none⟩ (H (n+c:Nat))).drewN q).cell? ⟨b,off+i,none⟩=some (.int .u8 (l.getD i 0)):=fun i hi=>by
      rw[World.cell?_drewN,yM _ _ _ _ (by intro e;injection e;omega)];exact bS i hi
     have hcv:=conv_text _ _ _ (piece_rd (cap:=cap-n) hcl2 (show n+c<=l.length by omega) hl);simp only[Int.natCast_add] at hcv;have HRw:=U (((O cK).step ((n+c:Nat):Int)).drewN q);have HGw:=U (zr (O HG) (zr (fI w1 ⟨B,1,none⟩ (H ((n+c:Nat):Int))) (ef _ q _)));generalize strB ((l.drop n).take c)=s at *;clear bS hcl2 xo xp;have HVA:=U kH;clear kH;go_wp2_with fail;go_ret;exact txtEnd_done (O HGw) (O HY) (by rw[O HVA];exact O HRw)
theorem frombits (n:Int)(w:World):(callFunc 111 #[.int .u64 n]).run Tryz.prog w = .ok (.value (yk n.toNat)) w:=by
 rw[run_callFunc_extern (e:=Extern.MathFloatBits.float64frombits) Tryz.func111 (by kernel_rfl) (by kernel_rfl) (by kernel_rfl) (by kernel_rfl)];rfl
def shl8 (u:Nat)(c:Int):Nat:=u*256+c.toNat
def dR (l:List Int)(k i:Nat):Nat:=((l.drop k).take i).foldl shl8 0
theorem bits8_step (l:List Int)(k i:Nat)(h:k+i<l.length):dR l k (i+1)=shl8 (dR l k i) (l.getD (k+i) 0):=by
 unfold dR;rw[List.take_succ_eq_append_getElem (by rw[List.length_drop];omega),List.foldl_append];simp[h]
theorem bits8_lt (l:List Int)(k:Nat)(K:Bts l):∀i,dR l k i<256 ^ i
 | 0=>by simp[dR]
 | i+1=>by
  have ih:=bits8_lt l k K i
  by_cases h:k+i<l.length
  ·rw[bits8_step l k i h,Nat.pow_succ];have:=gk K (k+i);unfold shl8;omega
  ·have e:dR l k (i+1)=dR l k i:=by
    unfold dR;rw[xa (by rw[List.length_drop];omega),xa (by rw[List.length_drop];omega)]
   rw[e,Nat.pow_succ];omega
theorem or8 (u:Nat)(c:Int)(hu:u<72057594037927936)(h0:0<=c)(Z:c<=255):bits .or .u64 (IntKind.u64.wrap ((u:Int)*256)) c=(shl8 u c:Int):=by
 have e2:(u:Int)*256=((u*256:Nat):Int):=by omega
 obtain⟨d,rfl⟩:=Int.eq_ofNat_of_zero_le h0;rw[e2,IntKind.wrap_u64,Int.emod_eq_of_lt (by omega) (by omega),u64_or_nat _ _ (by omega) (by omega)];rw[nat_join 8 _ _ (by omega) (by omega)];unfold shl8;rw[Int.toNat_natCast]
def eD (l:List Int)(k:Nat):Option (Nat × Nat):=
 if l.length<k+8 then none else if nanB (dR l k 8)=true/\dR l k 8≠9221120237041090560 then none else some (dR l k 8,k+8)
theorem floatA_end {l:List Int}{k:Nat}(h:l.length<k+8):eD l k=none:=if_pos h
theorem floatA_bad {l:List Int}{k:Nat}(h:¬ l.length<k+8)(K:nanB (dR l k 8)=true/\dR l k 8≠9221120237041090560):eD l k=none:=by
 unfold eD;rw[if_neg h,if_pos K]
theorem floatA_yes {l:List Int}{k:Nat}(h:¬ l.length<k+8)(K:¬ (nanB (dR l k 8)=true/\dR l k 8≠9221120237041090560)):eD l k=some (dR l k 8,k+8):=by
 unfold eD;rw[if_neg h,if_neg K]
def FltEnd (B:Nat)(v:Value)(w:World)(r:Option (Nat × Nat))(e:Ending)(w':World):Prop:=
 w.grownBy w' (some B)/\(∀x next,r=some (x,next)->e = .returned (yk x)/\Rdr B w' v next)/\(r=none->∃p,e = .panicked (ey 3 p))
theorem fltEnd_fail {B:Nat}{v:Value}{w w':World}{r:Option (Nat × Nat)}(F:w.grownBy w' (some B))(hr:r=none)(p:Int):FltEnd B v w r (.panicked (ey 3 p)) w':=
 ⟨F,(fun _ _ h=>by rw[hr] at h;cases h),fun _=>⟨p,rfl⟩⟩
theorem fltEnd_done {B:Nat}{v:Value}{w w':World}{r:Option (Nat × Nat)}{u n:Nat}(F:w.grownBy w' (some B))(hr:r=some (u,n))(h:Rdr B w' v n):FltEnd B v w r (.returned (yk u)) w':=
 ⟨F,(fun a b h'=>by rw[hr] at h';cases h';exact⟨rfl,h⟩),(fun h'=>by rw[hr] at h';cases h')⟩
theorem float_some (B:Nat)(w0:World)(b off cap k:Nat)(l:List Int)(hr:Rdr B w0 (.slice (some ⟨b,off,none⟩) l.length cap) k)(h8:k+8<=l.length)(hl:l.length<=65536)(xW:l.length<=cap)(cP:b≠B)
  (hc:∀i,i<l.length->w0.cell? ⟨b,off+i,none⟩=some (.int .u8 (l.getD i 0))) (K:Bts l) :
  Calls Tryz.prog 209 #[.pointer (some ⟨B,0,none⟩)] w0 fun e w'=>FltEnd B (.slice (some ⟨b,off,none⟩) l.length cap) w0 (eD l k) e w':=by
 have HR:=U hr;have HC:=U hc;have HB:=U K;have pN:=frombits;have bm:=U (floatA_bad (l:=l) (k:=k) (by omega));have qL:=U (floatA_yes (l:=l) (k:=k) (by omega));clear hr hc K;go_enter Tryz.func209,Tryz.ntmps209;go_wp2_with fail;refine(take_ok B 8 k b off l.length cap _ (O HR) (by omega) (by omega) xW (by omega)).mono ?_;rintro e w1 ⟨rfl,q,rfl⟩;have HRw:=U (((O HR).step ((k+8:Nat):Int)).drewN q);have HGw:=U (zr (fI w0 ⟨B,1,none⟩ (H ((k+8:Nat):Int))) (ef _ q _));go_wp2_with fail
 go_loop [3,10] (fun uv iv=>∃i:Nat,i<=8/\iv=H i/\uv = .int .u64 (dR l k i)) (fun _ iv=>8-(intOf iv).toNat)
 case atStart=>exact⟨0,by omega,rfl,rfl⟩
 case round =>
  obtain⟨i,hi,rfl,rfl⟩:=hrel
  by_cases xK:i<8
  ·have hcx:=O HC (k+i) (by omega);rw[<- Nat.add_assoc] at hcx;have vL:=gk (O HB) (k+i);have hlt8:=bits8_lt l k (O HB) i;have hp:256 ^ i<=72057594037927936:=yO (Nat.pow_le_pow_right (by omega) (show i<=7 by omega)) (by decide);have hor:=or8 (dR l k i) (l.getD (k+i) 0) (by omega) vL.1 vL.2;have HS:=U (bits8_step l k i (by omega));rw[<- O HS] at hor;have ux:(i:Int)<8:=by omega
   generalize l.getD (k+i) 0=c at *;generalize hu:dR l k i=u at *;generalize hu':dR l k (i+1)=u' at *;have HU':=U hu';clear hlt8 hp hu hu';obtain⟨jT,jX⟩:=vL;go_wp2_with fail
   go_round
   case rel=>exact⟨i+1,by omega,by go_num,by rw[O HU']⟩
   case measure=>simp[intOf];omega
  ·obtain rfl:i=8:=by omega
   generalize dR l k 8=u at *;cases hn:nanB u with
   | true =>
    by_cases he:u=9221120237041090560
    ·have HY:=U (O qL (by intro h;exact h.2 he));have he':((u:Int) != 9221120237041090560)=false:=by rw[he];rfl
     clear he;go_wp2_with (go_at_call 212;refine(ln _ _).mono ?_;rintro e w' ⟨rfl,rfl⟩);go_ret;exact fltEnd_done (O HGw) (O HY) (O HRw)
    ·have HY:=U (O bm ⟨hn,he⟩);have he':((u:Int) != 9221120237041090560)=true:=by rw[bne_iff_ne];omega
     clear he;go_wp2_with (go_at_call 212;refine(ln _ _).mono ?_;rintro e w' ⟨rfl,rfl⟩);refine(fu B 3 _ _ _ (O HRw)).mono ?_;rintro e w2 ⟨rfl,rfl⟩;go_wp2_with fail;exact⟨rfl,fltEnd_fail (O HGw) (O HY) _⟩
   | false =>
    have HY:=U (O qL (by intro h;rw[hn] at h;cases h.1));go_wp2_with (go_at_call 212;refine(ln _ _).mono ?_;rintro e w' ⟨rfl,rfl⟩);go_ret;exact fltEnd_done (O HGw) (O HY) (O HRw)
theorem float_end (B:Nat)(w0:World)(a:Option Addr)(cap k:Nat)(l:List Int)(hr:Rdr B w0 (.slice a l.length cap) k)(E:k<=l.length)(h8:l.length<k+8)(hl:l.length<=65536) :
  Calls Tryz.prog 209 #[.pointer (some ⟨B,0,none⟩)] w0 fun e w'=>FltEnd B (.slice a l.length cap) w0 (eD l k) e w':=by
 have HR:=U hr;have HY:=U (floatA_end h8);clear hr;go_enter Tryz.func209,Tryz.ntmps209;go_wp2_with fail;refine(iO B 8 k a l.length cap _ (O HR) (by omega) (by omega) (by omega) (by omega) (by omega)).mono ?_;rintro e w1 ⟨rfl,q,rfl⟩;go_wp2_with fail;exact⟨rfl,fltEnd_fail (ef _ _ _) (O HY) _⟩
theorem float_any (B:Nat)(v:Value)(l:List Int)(k:Nat)(w w0:World)(xY:Rd w v l)(xW:eJ v)(kA:w.heap.size<=B)(xl:yp w w0)(hr:Rdr B w0 v k)(E:k<=l.length)(hl:l.length<=65536)(K:Bts l) :
  Calls Tryz.prog 209 #[.pointer (some ⟨B,0,none⟩)] w0 fun e w'=>FltEnd B v w0 (eD l k) e w':=by
 obtain⟨a,cap,rfl,_,hc⟩:=xY
 by_cases h8:l.length<k+8
 ·exact float_end B w0 a cap k l hr E h8 hl
 ·obtain⟨b,off,rfl,xp⟩:=hc (by intro h;rw[h] at h8;simp at h8);have oY:b<w.heap.size:=yL w _ (xp 0 (by omega));exact float_some B w0 b off cap k l hr (by omega) hl (xW _ _ _ rfl) (by omega) (fun i hi=>(xl.cell (p:=⟨b,off+i,none⟩) oY).trans (xp i hi)) K
def bl (s:ByteArray):List Int:=s.data.toList.map fun b=>(b.toNat:Int)
theorem bl_len (s:ByteArray):(bl s).length=s.size:=by simp[bl]
theorem bl_cells (s:ByteArray):Lib.strCells s=(bl s).map (Value.int .u8):=by simp[Lib.strCells,bl]
theorem run_room_text {P:Program}(w:World)(t u ty e tb:TypeId)(i:TypeInfo)(ht:P.underlying t=some (.slice e))(hu:P.underlying u=some .string)(hi:P.info? e=some i)(xG:i.size=1)
  (g jy aK:Nat) (xt:Array Value) (F:w.heap[g]? = some (.cells xt tb (0,0))) (s:ByteArray) (aI:jy+s.size<=aK) (ak:jy+s.size<=xt.size) :
  (Builtin.append_ #[t,u] ty #[.slice (some (Y g 0)) jy aK,yl s]).run P w =
   .ok (.slice (some (Y g 0)) (jy+s.size) aK) (w.setRow g (xt.toList.take jy++Lib.strCells s++xt.toList.drop (jy+s.size)).toArray):=by
 have hf:=Lib.run_firstCells_string (P:=P) w 1 s;have qm:=run_storeCells_at P g jy tb (Lib.strCells s) 0 xt w F (by simpa[Lib.strCells_length] using ak) (Lib.strCells_oneCell s);simp only[Nat.add_zero,Lib.strCells_length] at qm;simp[Builtin.append_,run_underlying ht,run_underlying hu,sizeOf,typeInfo,hi,xG,Builtin.lenOf,aI,hf,Addr.add_lit,qm]
theorem run_append_text {P:Program}(w:World)(B:Nat)(t u ty e:TypeId)(i:TypeInfo)(ht:P.underlying t=some (.slice e))(hu:P.underlying u=some .string)(hi:P.info? e=some i)
  (hz:i.zero=some (.int .u8 0)) (jp:i.size=1) (hby:i.bytes=1) (v:Value) (l:List Int) (xu:OwnT B w v l) (s:ByteArray) (K:l.length+s.size<=1073741824) (hB:B<=w.heap.size) :
  ∃v' w',(Builtin.append_ #[t,u] ty #[v,yl s]).run P w = .ok v' w'/\OwnT B w' v' (l++bl s)/\w.grownBy w' v.ownBlock:=by
 obtain⟨g,cap,xt,tb,rfl,hbg,F,qd,oZ,hcm,hl,pg⟩:=xu;have xC:(l++bl s).length=l.length+s.size:=by rw[yQ,bl_len]
 by_cases aI:l.length+s.size<=cap
 ·have hr:=run_room_text (P:=P) w t u ty e tb i ht hu hi jp g l.length cap xt F s aI (by omega);refine⟨_,_,hr,⟨g,cap,_,tb,by rw[xC],hbg,setRow_heap w g xt _ tb _ F,by omega,?_,hcm,by omega,?_⟩,⟨rfl,rfl,rfl,by simp,fun k _ E=>setRow_other w g k _ (fun e=>E (by simp[Value.ownBlock,e]))⟩⟩
  ·simp only[List.size_toArray,yQ,List.length_take,List.length_drop,Array.length_toList,Lib.strCells_length];omega
  ·rw[pg,bl_cells,<- List.map_append];exact List.take_left' (by simp)
 ·have hr:=Lib.run_append_grow_string (P:=P) w t u ty e i (.int .u8 0) ht hu hi hz (Y g 0) l.length cap (l.map (Value.int .u8)) (by rw[jp];simp)
   (fun j x hj=>by
    have pO:j<l.length:=by
     rcases Nat.lt_or_ge j l.length with h|h
     ·exact h
     ·rw[List.getElem?_eq_none (by simpa using h)] at hj;cases hj
    have:=lj F pg pO;rw[List.getElem?_map,yI pO] at hj;have e:((Y g 0):Addr).add j=(Y g j):=by unfold Addr.add;split <;> simp_all
    rw[e,this];simpa[pO] using hj) s (by omega) (by omega) (by rw[hby];exact growslice_fits (by omega) (by omega))
  have hge:=grownCap_ge w (l.length+s.size) cap e;have hcm':grownCap w (l.length+s.size) cap e<=maxLen:=grownCap_le_maxLen w (l.length+s.size) cap e (by unfold maxLen;omega);refine⟨_,_,hr,⟨w.heap.size,_,_,e,by rw[xC],hB,heap_alloc_new w.drew _,by omega,?_,hcm',by omega,?_⟩,⟨rfl,rfl,rfl,by simp,fun k E _=>Below.heap_alloc w.drew _ k E⟩⟩
  ·have xX:(Value.int IntKind.u8 0).cells.size=1:=rfl;simp only[Array.size_append,List.size_toArray,size_zeroCells,xX,Lib.strCells_length,List.length_map];omega
  ·simp only[Array.toList_append,bl_cells,<- List.map_append];exact List.take_left' (by simp)
theorem wpList_append_text {P:Program}(w:World){cB:Array Oper}{rest:List Oper}{o:Oper}{a:Act}{h2:Exit->Act->World->Prop}(hgd:o.guard=none)(sl x:Operand)(t u:TypeId)
  (D:o.op = .call { callee:=.builtin .append,args:=#[sl,x],argTypes:=#[t,u] })
  (B:Nat) (e:TypeId) (i:TypeInfo) (ht:P.underlying t=some (.slice e)) (hu:P.underlying u=some .string) (hi:P.info? e=some i)
  (hz:i.zero=some (.int .u8 0)) (jp:i.size=1) (hby:i.bytes=1) (v:Value) (l:List Int) (hs:a.eval sl=v) (xu:OwnT B w v l) (s:ByteArray) (hx:a.eval x=yl s)
  (K:l.length+s.size<=1073741824) (hB:B<=w.heap.size)
  (h:∀v' w',OwnT B w' v' (l++bl s)->w.grownBy w' v.ownBlock->wpList P cB h2 rest (a.put o.dst v') w'):wpList P cB h2 (o::rest) a w:=by
 refine wpList_plain hgd fun hb hK=>?_;obtain⟨v',w',hr,Q,I⟩:=run_append_text (P:=P) w B t u o.type e i ht hu hi hz jp hby v l xu s K hB;unfold Oper.wp execOp;simp only[D,resolve,invoke,builtin,Sem.run_bind,Sem.run_pure,Result.andThen_ok,List.map_toArray,List.map_cons,List.map_nil,hs,hx,hr];exact hK _ _ (h v' w' Q I)
theorem shapeN_any (k:Int)(w:World)(h:¬ (1<=k/\k<=9)):Calls Tryz.prog 129 #[H k] w fun e w'=>eQ k w e w':=by
 have HE:Hid (∀w',yp w w'->eQ k w (.returned (.agg #[H 0,.slice none 0 0])) w'):=fun w' K=>by
  have Z:shC k=0:=if_neg (by omega);have Q:shF k = []:=by unfold shF;rw[if_neg (by omega),if_neg (by omega),if_neg (by omega),if_neg (by omega),if_neg (by omega)]
  unfold eQ;rw[Z,Q];exact⟨_,[],rfl,⟨none,0,rfl,by simp,fun h=>absurd rfl h⟩,trivial,K⟩
 have e1:(k==1)=false:=xe.2 (by omega);have e2:(k==2)=false:=xe.2 (by omega);have e3:(k==3)=false:=xe.2 (by omega);have e4:(k==4)=false:=xe.2 (by omega);have e5:(k==5)=false:=xe.2 (by omega);have e6:(k==6)=false:=xe.2 (by omega);have e7:(k==7)=false:=xe.2 (by omega);have e8:(k==8)=false:=xe.2 (by omega);have e9:(k==9)=false:=xe.2 (by omega);clear h;go_enter Tryz.func129,Tryz.ntmps129;go_wp2_with fail;go_returns;exact O HE _ (by go_grown)
theorem shape_any (k:Int)(w:World):Calls Tryz.prog 129 #[H k] w fun e w'=>eQ k w e w':=by
 by_cases h:1<=k/\k<=9
 ·rcases(show k=1\/k=2\/k=3\/k=4\/k=5\/k=6\/k=7\/k=8\/k=9 by omega) with rfl|rfl|rfl|rfl|rfl|rfl|rfl|rfl|rfl
  ·exact shape1_any w
  ·exact shape2_any w
  ·exact shape3_any w
  ·exact shape4_any w
  ·exact shape5_any w
  ·exact shape6_any w
  ·exact shape7_any w
  ·exact shape8_any w
  ·exact shape9_any w
 ·exact shapeN_any k w h
structure RSr (wb:World) (R:Nat) (v:Value) (l:List Int) (k:Nat) (W:World):Prop where
 rd:Rd wb v l
 cap:eJ v
 le:wb.heap.size<=R
 bel:Below wb.heap.size wb W
 r:Rdr R W v k
 kk:k<=l.length
 ll:l.length<=65536
 bb:Bts l
theorem RSr.lt {wb:World}{R:Nat}{v:Value}{l:List Int}{k:Nat}{W:World}(h:RSr wb R v l k W):R<W.heap.size:=yL W _ h.r.1
theorem RSr.go {wb:World}{R:Nat}{v:Value}{l:List Int}{k n:Nat}{W W':World}(h:RSr wb R v l k W)(F:W.grownBy W' (some R))(hr:Rdr R W' v n)(hn:n<=l.length):RSr wb R v l n W':=
 ⟨h.rd,h.cap,h.le,h.bel.trans (gr_below F h.le h.bel.size),hr,hn,h.ll,h.bb⟩
theorem RSr.keep {wb:World}{R:Nat}{v:Value}{l:List Int}{k:Nat}{W W':World}(h:RSr wb R v l k W)(K:yp wb W')(hr:Rdr R W' v k):RSr wb R v l k W':=⟨h.rd,h.cap,h.le,K,hr,h.kk,h.ll,h.bb⟩
theorem RSr.below {wb:World}{R C:Nat}{v:Value}{l:List Int}{k:Nat}{W W':World}(h:RSr wb R v l k W)(K:Below C W W')(hC:R<C):RSr wb R v l k W':=
 h.keep (h.bel.trans (K.mono (Nat.le_of_lt (Nat.lt_of_le_of_lt h.le hC)))) (gZ h.r K hC)
theorem number_rs {wb:World}{R:Nat}{v:Value}{l:List Int}{k:Nat}{W:World}(h:RSr wb R v l k W):Calls Tryz.prog 73 #[.pointer (some ⟨R,0,none⟩)] W fun e w'=>NumEnd R v W (getU l k) e w':=
 number_any R v l k wb W h.rd h.cap h.le h.bel h.r h.kk h.ll h.bb
theorem float_rs {wb:World}{R:Nat}{v:Value}{l:List Int}{k:Nat}{W:World}(h:RSr wb R v l k W):Calls Tryz.prog 209 #[.pointer (some ⟨R,0,none⟩)] W fun e w'=>FltEnd R v W (eD l k) e w':=
 float_any R v l k wb W h.rd h.cap h.le h.bel h.r h.kk h.ll h.bb
theorem text_rs {wb:World}{R:Nat}{v:Value}{l:List Int}{k:Nat}{W:World}(h:RSr wb R v l k W):Calls Tryz.prog 211 #[.pointer (some ⟨R,0,none⟩)] W fun e w'=>TxtEnd R v W (eg l k) e w':=
 text_any R v l k wb W h.rd h.cap h.le h.bel h.r h.kk h.ll h.bb
theorem floatA_le {l:List Int}{k x n:Nat}(h:eD l k=some (x,n)):n<=l.length/\k<=n:=by
 unfold eD at h;split at h
 ·cases h
 ·split at h
  ·cases h
  ·simp only[Option.some.injEq,Prod.mk.injEq] at h;omega
theorem textA_le {l:List Int}{k n:Nat}{s:ByteArray}(h:eg l k=some (s,n)):n<=l.length/\k<=n:=by
 unfold eg at h;split at h
 ·cases h
 ·next u m hm =>
  have:=io 10 0 0 l k u m hm;split at h
  ·cases h
  ·simp only[Option.some.injEq,Prod.mk.injEq] at h;omega
def rdF (o:Nat)(l:List Int)(k:Nat):Option (Value × Nat):=
 if o=7 then(eD l k).map fun x=>(yk x.1,x.2) else if o=8 then(eg l k).map fun x=>(yl x.1,x.2) else(getU l k).map fun x=>(H (unz x.1),x.2)
theorem rdF_le {o k n:Nat}{l:List Int}{x:Value}(h:rdF o l k=some (x,n)):n<=l.length/\k<=n:=by
 unfold rdF at h;split at h
 ·obtain⟨⟨a,b⟩,Z,Q⟩:=Option.map_eq_some_iff.1 h;cases Q;exact floatA_le Z
 ·split at h
  ·obtain⟨⟨a,b⟩,Z,Q⟩:=Option.map_eq_some_iff.1 h;cases Q;exact textA_le Z
  ·obtain⟨⟨a,b⟩,Z,Q⟩:=Option.map_eq_some_iff.1 h;cases Q;exact io 10 0 0 l k _ _ Z
structure Gr2 (R hk:Nat) (w w':World):Prop where
 os:w'.os=w.os
 tape:w'.tape=w.tape
 output:w'.output=w.output
 size:w.heap.size<=w'.heap.size
 block:∀i,i<w.heap.size->i≠R->i≠hk->w'.heap[i]? = w.heap[i]?
theorem gr2_gr {R hk:Nat}{w w':World}(h:w.grownBy w' (some R)):Gr2 R hk w w':=⟨h.os,h.tape,h.output,h.size,fun i hi hR _=>h.block i hi (by simpa using hR)⟩
theorem gr2_set {R hk j:Nat}{u:Value}{w w':World}(h:Gr2 R hk w w'):Gr2 R hk w (w'.setCell ⟨hk,j,none⟩ u):=
 ⟨h.os,h.tape,h.output,by have:=h.size;simpa[World.setCell] using this,fun i hi hR hE=>by rw[yT _ _ _ _ (by show i≠hk;exact hE)];exact h.block i hi hR hE⟩
theorem gr2_on {R hk:Nat}{w W W':World}(h:w.grownBy W (some R))(Q:Gr2 R hk W W')(hE:w.heap.size<=hk):w.grownBy W' (some R):=
 ⟨Q.os.trans h.os,Q.tape.trans h.tape,Q.output.trans h.output,yO h.size Q.size,fun i hi hR=>by
  rw[Q.block i (yK hi h.size) (by simpa using hR) (by omega)];exact h.block i hi hR⟩
def FdEnd (wb:World)(R hk:Nat)(v:Value)(l:List Int)(o:Nat)(vs:List Value)(W:World)(r:Option (Value × Nat))(e:Ending)(w':World):Prop:=
 Gr2 R hk W w'/\(∀x n,r=some (x,n)->e = .returned (.tuple #[])/\RSr wb R v l n w'/\Bx w' hk (vs.set o x))/\(r=none->∃p,e = .panicked (ey 3 p))
theorem fdEnd_fail {wb:World}{R hk:Nat}{v:Value}{l:List Int}{o:Nat}{vs:List Value}{W w':World}{r:Option (Value × Nat)}(F:W.grownBy w' (some R))(hr:r=none)(p:Int):FdEnd wb R hk v l o vs W r (.panicked (ey 3 p)) w':=
 ⟨gr2_gr F,(fun _ _ h=>by rw[hr] at h;cases h),fun _=>⟨p,rfl⟩⟩
theorem fdEnd_done {wb:World}{R hk:Nat}{v:Value}{l:List Int}{o k:Nat}{vs:List Value}{W w':World}{r:Option (Value × Nat)}{x:Value}{n:Nat}(hs:RSr wb R v l k W)(hx:Bx W hk vs)(F:W.grownBy w' (some R))(hE:R<hk)(hr:r=some (x,n))(hn:n<=l.length)
  (h:Rdr R w' v n) (D:o<vs.length):FdEnd wb R hk v l o vs W r (.returned (.tuple #[])) (w'.setCell ⟨hk,o,none⟩ x):=by
 have hEw:hk<W.heap.size:=by
  have:=(hx.t 0 (by omega)).1;obtain⟨y,hy⟩:=Option.isSome_iff_exists.1 this;exact yL W _ hy
 have hx':Bx w' hk vs:=dm hx (F.block hk hEw (by simp;omega));refine⟨gr2_set (gr2_gr F),(fun y m h'=>?_),(fun h'=>by rw[hr] at h';cases h')⟩;rw[hr] at h';cases h';have Z:=hs.go F h hn;refine⟨rfl,Z.keep ?_ ?_,eO hx' D⟩
 ·exact Z.bel.setCell (p:=⟨hk,o,none⟩) (show wb.heap.size<=hk from Nat.le_of_lt (Nat.lt_of_le_of_lt hs.le hE)) _
 ·exact rdr_grown h (fI w' ⟨hk,o,none⟩ x) (by show R≠hk;omega)
def dZ (s:ByteArray):List Int:=putU (zz (cutB s).size)++bl (cutB s)
theorem textL_len (s:ByteArray):0<(dZ s).length/\(dZ s).length<=1073741824:=by
 have Z:=putU_pos (zz (cutB s).size);have Q:=gL s;have I:=zH (zz (cutB s).size) (dy _ (by omega) (by omega));rw[dZ,yQ,bl_len];omega
end Go.Proofs.YtkofhemdefffpaaGreatDoor
