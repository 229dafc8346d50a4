/-.-/
import Derived.Test.YtkofhemdefffpaaGreatDoorPq37
import Derived.LaidLaws
import Derived.LaidHandle
set_option linter.unusedVariables false
set_option maxHeartbeats 6400000
set_option maxRecDepth 100000
namespace Go.Proofs.YtkofhemdefffpaaGreatDoor
open Go.RowKit
def DrOk (c:Cm):Prop:=c.g.size<=20/\PrW c.p
def Mi (x:Int):Prop:=-9223372036854775808<=x/\x<=9223372036854775807
def DrIn (c:Cm):Prop:=Mi c.k/\Mi c.s/\Mi c.t/\Mi c.l/\Mi c.q/\Mi c.i/\c.p<18446744073709551616
theorem mi_wrap (x:Int):Mi (IntKind.i64.wrap x):=by rw[IntKind.wrap_i64];unfold Mi;omega
theorem mi_of {x:Int}(h:0<=x)(h':x<=1000000):Mi x:=by unfold Mi;omega
theorem drIn_new {a b c:Int}{s:ByteArray}(Z:Mi a)(Q:Mi b)(I:Mi c):DrIn ⟨1,a,b,0,c,0,0,s⟩:=⟨mi_of (x:=1) (by omega) (by omega),Z,Q,mi_of (x:=0) (by omega) (by omega),I,mi_of (x:=0) (by omega) (by omega),show 0<18446744073709551616 by decide⟩
theorem rawCmd_drawn (B:Nat)(v:Value)(l:List Int)(m:Int)(w:World)(h:Src B w v l m)(hm:m<=800000000) :
  Calls Tryz.prog 37 #[h3 B 0] w fun e w'=>∃c:Cm,e=yn (.agg c.vs.toArray)/\DrOk c/\DrIn c/\du B w v l (m+30) w':=by
 have HV:=U (src_far h);have hB:=src_lt h;have oD:Hid (DrC B w.heap.size w v l m (w.alloc (me (yy 0 0 0 0 0 0 0 ⟨#[]⟩).toArray 37))):=⟨gA (fP h) _,(zo w (yy 0 0 0 0 0 0 0 ⟨#[]⟩) 37).t⟩;have jo:w.heap.size<(w.alloc (me (yy 0 0 0 0 0 0 0 ⟨#[]⟩).toArray 37)).heap.size:=by simp
 clear h;go_enter Tryz.func37,Tryz.ntmps37;go_wp2_with fail;generalize (w.alloc (me (yy 0 0 0 0 0 0 0 ⟨#[]⟩).toArray 37))=W0 at oD jo |-;refine(ei B v l (m) 6 W0 (O oD).e.1 (by omega) (by omega) (by omega)).mono ?_;rintro e W1 ⟨y1,rfl,a0,b0,hE⟩;have HI1:Hid (Mi y1):=mi_of a0 (by omega);clear a0 b0;have ji:=U (eS (O oD) hB hE jo);have xG:w.heap.size<W1.heap.size:=yK jo hE.2.size;clear hE oD jo;go_wp2_with fail;refine(ei B v l (m+3) 4 W1 (O ji).e.1 (by omega) (by omega) (by omega)).mono ?_;rintro e W2 ⟨y2,rfl,a0,b0,hE⟩;have HI2:Hid (Mi y2):=mi_of a0 (by omega);clear a0 b0;have bo:=U (eS (O ji) hB hE xG);have ug:w.heap.size<W2.heap.size:=yK xG hE.2.size;clear hE ji xG;go_wp2_with fail;refine(ei B v l (m+3+3) 7 W2 (O bo).e.1 (by omega) (by omega) (by omega)).mono ?_;rintro e W3 ⟨y3,rfl,a0,b0,hE⟩;have HI3:Hid (Mi y3):=mi_of a0 (by omega);clear a0 b0;have HD3:=U (eS (O bo) hB hE ug);have qv:w.heap.size<W3.heap.size:=yK ug hE.2.size;clear hE bo ug;go_wp2_with fail;refine(ei B v l (m+3+3+3) 3 W3 (O HD3).e.1 (by omega) (by omega) (by omega)).mono ?_;rintro e W4 ⟨y4,rfl,a0,b0,hE⟩;have HI4:Hid (Mi y4):=mi_of a0 (by omega);clear a0 b0;have HD4:=U (eS (O HD3) hB hE qv);have hs4:w.heap.size<W4.heap.size:=yK qv hE.2.size;clear hE HD3 qv;go_wp2_with fail;refine(number_drawn B v l (m+3+3+3+3) W4 (O HD4).e.1 (by omega)).mono ?_;rintro e W5 ⟨y5,rfl,a0,b0,hE⟩;have HI5:Hid (Mi y5):=⟨a0,b0⟩;clear a0 b0;have HD5:=U (eS (O HD4) hB hE hs4);have hs5:w.heap.size<W5.heap.size:=yK hs4 hE.2.size;clear hE HD4 hs4;go_wp2_with fail;refine(ei B v l (m+3+3+3+3+6) 3 W5 (O HD5).e.1 (by omega) (by omega) (by omega)).mono ?_;rintro e W6 ⟨y6,rfl,a0,b0,hE⟩;have HI6:Hid (Mi y6):=mi_of a0 (by omega);clear a0 b0;have HD6:=U (eS (O HD5) hB hE hs5);have hs6:w.heap.size<W6.heap.size:=yK hs5 hE.2.size;clear hE HD5 hs5;go_wp2_with fail;refine(float_drawnT B v l (m+3+3+3+3+6+3) W6 (O HD6).e.1 (by omega)).mono ?_;rintro e W7 ⟨y7,rfl,hy7,hE⟩;have HD7:=U (eS (O HD6) hB hE hs6);have hs7:w.heap.size<W7.heap.size:=yK hs6 hE.2.size;clear hE HD6 hs6;go_wp2_with fail;refine(tag_drawn B v l (m+3+3+3+3+6+3+3) W7 (O HD7).e.1 (by omega)).mono ?_;rintro e W8 ⟨y8,rfl,hy8,hE⟩;have HD8:=U (eS (O HD7) hB hE hs7);have hs8:w.heap.size<W8.heap.size:=yK hs7 hE.2.size;clear hE HD7 hs7;have pY:=U (O HD8).t;have ul:Hid ((W8.setCells w.heap.size 0 (yy y1 y2 y3 y4 y5 y6 y7 y8)).rangeAt w.heap.size 0 (yy y1 y2 y3 y4 y5 y6 y7 y8)):=yY _ _ _ _ (O HD8).t;have qi:Hid (du B w v l (m+3+3+3+3+6+3+3+3) (W8.setCells w.heap.size 0 (yy y1 y2 y3 y4 y5 y6 y7 y8))):=gQ (O HV) (O HD8).e hB yb _
 try dsimp only
 rename_i K1 bR K2 kh;refine kh _ _ ?_;have xw:=U bR;clear bR kh;refine wpList_step fun K3 qG=>?_;have vZ:=U qG;clear qG;go_simp;refine O vZ _ _ ?_;clear vZ;refine wpList_store_mid rfl 37 (.tmp 2) (.tmp 19) rfl w.heap.size 0 (yy y1 y2 y3 y4 y5 y6 y7 y8).toArray rfl rfl (O pY) (by kernel_rfl) (by simp[Value.oneCell']) ?_;change wpList _ _ _ _ _ (W8.setCells w.heap.size 0 (yy y1 y2 y3 y4 y5 y6 y7 y8));generalize W8.setCells w.heap.size 0 (yy y1 y2 y3 y4 y5 y6 y7 y8)=WF at ul qi |-;have bR:=O xw;go_wp2_with fail;have d0:=O ul 0 _ rfl;have d1:=O ul 1 _ rfl;have d2:=O ul 2 _ rfl;have d3:=O ul 3 _ rfl;have d4:=O ul 4 _ rfl;have d5:=O ul 5 _ rfl;have d6:=O ul 6 _ rfl;have d7:=O ul 7 _ rfl;simp only[Nat.zero_add] at d0 d1 d2 d3 d4 d5 d6 d7;refine bodyPost_ret (by simp[results,Tryz.results37,go_sem,d0,d1,d2,d3,d4,d5,d6,d7];try rfl) rfl ?_;exact⟨⟨y1,y2,y3,y4,y5,y6,y7,y8⟩,rfl,⟨hy8,hy7.1⟩,⟨O HI1,O HI2,O HI3,O HI4,O HI5,O HI6,hy7.2⟩,eY (O qi).1 (by omega),(O qi).2⟩
def PrO (k a b c:Nat):Prop:=∀W:World,(convert 3 35 (H k)).run Tryz.prog W = .ok (yk a) W/\(binOp .quo 35 (yk a) (yk 4616189618054758400)).run Tryz.prog W = .ok (yk b) W/\(binOp .add 35 (yk 4636666922610458624) (yk b)).run Tryz.prog W = .ok (yk c) W
theorem prO_of {k a b c:Nat}(Z:∀W:World,(convert 3 35 (H k)).run Tryz.prog W = .ok (yk a) W)(Q:FloatKind.f64.format.div a 4616189618054758400=some b)(I:FloatKind.f64.format.add 4636666922610458624 b=some c):PrO k a b c:=
 fun W=>⟨Z W,by simp[binOp,Op.floatArith,Q],by simp[binOp,Op.floatArith,I]⟩
theorem prO_0:PrO 0 0 0 4636666922610458624:=prO_of (fun W=>by kernel_rfl) (by kernel_rfl) (by kernel_rfl)
theorem prO_1:PrO 1 4607182418800017408 4598175219545276416 4636684514796503040:=prO_of (fun W=>by kernel_rfl) (by kernel_rfl) (by kernel_rfl)
theorem prO_2:PrO 2 4611686018427387904 4602678819172646912 4636702106982547456:=prO_of (fun W=>by kernel_rfl) (by kernel_rfl) (by kernel_rfl)
theorem prO_3:PrO 3 4613937818241073152 4604930618986332160 4636719699168591872:=prO_of (fun W=>by kernel_rfl) (by kernel_rfl) (by kernel_rfl)
theorem prO_4:PrO 4 4616189618054758400 4607182418800017408 4636737291354636288:=prO_of (fun W=>by kernel_rfl) (by kernel_rfl) (by kernel_rfl)
theorem prO_5:PrO 5 4617315517961601024 4608308318706860032 4636754883540680704:=prO_of (fun W=>by kernel_rfl) (by kernel_rfl) (by kernel_rfl)
theorem prO_6:PrO 6 4618441417868443648 4609434218613702656 4636772475726725120:=prO_of (fun W=>by kernel_rfl) (by kernel_rfl) (by kernel_rfl)
theorem prO_7:PrO 7 4619567317775286272 4610560118520545280 4636790067912769536:=prO_of (fun W=>by kernel_rfl) (by kernel_rfl) (by kernel_rfl)
theorem prO_8:PrO 8 4620693217682128896 4611686018427387904 4636807660098813952:=prO_of (fun W=>by kernel_rfl) (by kernel_rfl) (by kernel_rfl)
theorem prO_any (k:Nat)(h:k<9):∃a b c,PrO k a b c/\PrV c:=by
 rcases(by omega:k=0\/k=1\/k=2\/k=3\/k=4\/k=5\/k=6\/k=7\/k=8) with rfl|rfl|rfl|rfl|rfl|rfl|rfl|rfl|rfl
 ·exact⟨_,_,_,prO_0,eP (by kernel_rfl),by decide⟩
 ·exact⟨_,_,_,prO_1,eP (by kernel_rfl),by decide⟩
 ·exact⟨_,_,_,prO_2,eP (by kernel_rfl),by decide⟩
 ·exact⟨_,_,_,prO_3,eP (by kernel_rfl),by decide⟩
 ·exact⟨_,_,_,prO_4,eP (by kernel_rfl),by decide⟩
 ·exact⟨_,_,_,prO_5,eP (by kernel_rfl),by decide⟩
 ·exact⟨_,_,_,prO_6,eP (by kernel_rfl),by decide⟩
 ·exact⟨_,_,_,prO_7,eP (by kernel_rfl),by decide⟩
 ·exact⟨_,_,_,prO_8,eP (by kernel_rfl),by decide⟩
theorem gErr:Tryz.prog.globalNamed "errors.errorType" = some 1:=by kernel_rfl
theorem rtErr:(Tryz.prog.cutTypes.find? (·.1 == "internal/reflectlite.rtype")).map (·.2) = some 224:=by kernel_rfl
theorem oneErr:((List.range 311).filter fun t=>Tryz.prog.rowNamed t [101,114,114,111,114]) = [127]:=by kernel_rfl
theorem sizeErr:Tryz.prog.types.size = 311:=by kernel_rfl
theorem err_laid {W:World}(h:laidMetH Tryz.prog [("errors.errorType",Rows.laid_errors_errorType)] W):ErrT W:=by
 have h':laidMet Tryz.prog [] W/\handlesMet Tryz.prog [("errors.errorType",Rows.laid_errors_errorType)] W:=h;obtain ⟨name,u,ty,e1,e2,e3,e4,e5⟩:=h'.2 _ (List.mem_singleton.2 rfl);have en:name = [101,114,114,111,114]:=(Option.some.inj e1).symm;subst en;obtain rfl:=Option.some.inj (rtErr.symm.trans e2);have hm:ty ∈ (List.range 311).filter fun t=>Tryz.prog.rowNamed t [101,114,114,111,114]:=List.mem_filter.2 ⟨List.mem_range.2 (by rw [<- sizeErr];exact e3),e4⟩;rw [oneErr] at hm;obtain rfl:=List.mem_singleton.1 hm;have hh:typeHandle Tryz.prog 127 = .pointer (some ⟨2,127,none⟩):=by kernel_rfl
 rw[hh] at e5;simpa[ErrT] using World.var?_cell gErr e5 0
end Go.Proofs.YtkofhemdefffpaaGreatDoor
