/-
  The fields of events, as the program makes them: proved by walking the functions.
-/
import Derived.Test.YtnphbkgfjanmgaaGreatDoorBj19
set_option linter.unusedVariables false
set_option maxHeartbeats 6400000
set_option maxRecDepth 100000
namespace Go.Proofs.YtnphbkgfjanmgaaGreatDoor
open Go.RowKit
structure Fc where
 n1:Nat
 n2:Nat
 l:Array Value
def Fc.vs (c:Fc):List Value:=[.func (.func c.n1) #[] c.l,.func (.func c.n2) #[] c.l]
theorem Fc.len (c:Fc):c.vs.length = 2:=rfl
def plcV (o:Nat):Nat:=match o with
 | 1=>155
 | 2=>146
 | 3=>147
 | 4=>148
 | 5=>149
 | 6=>156
 | 9=>154
 | 10=>158
 | 11=>159
 | 12=>160
 | 13=>157
 | _=>0
def FF (W:World) (B o:Nat) (c:Fc):Prop :=
 if o = 7 then c = ⟨150,151,#[]⟩ else if o = 8 then c = ⟨152,153,#[]⟩ else
  ∃ b,c = ⟨184,186,#[J b 0]⟩∧B ≤ b∧b < W.heap.size∧W.cell? (U b 0) = some (.func (.func (plcV o)) #[] #[])
theorem dV {B C o:Nat} {W W':World} {c:Fc} (h:FF W B o c) (Y:Below C W W') (hC:W.heap.size ≤ C):FF W' B o c:=by
 unfold FF at h ⊢
 split
 ·rwa [if_pos ‹_›] at h
 ·rw [if_neg ‹_›] at h
  split
  ·rwa [if_pos ‹_›] at h
  ·rw [if_neg ‹_›] at h
   obtain ⟨b,Q,E,h3,h4⟩:=h
   exact ⟨b,Q,E,yJ h3 Y.size,(Y.cell (p:=(U b 0)) (yJ h3 hC)).trans h4⟩
theorem ff_base {B B' o:Nat} {W:World} {c:Fc} (h:FF W B o c) (hB:B' ≤ B):FF W B' o c:=by
 unfold FF at h ⊢
 split
 ·rwa [if_pos ‹_›] at h
 ·rw [if_neg ‹_›] at h
  split
  ·rwa [if_pos ‹_›] at h
  ·rw [if_neg ‹_›] at h
   obtain ⟨b,Q,E,h3,h4⟩:=h
   exact ⟨b,Q,yN hB E,h3,h4⟩
def FEnd (o:Nat) (w:World) (e:Ending) (w':World):Prop:=∃ n1 n2 l,e = .returned (.agg #[.func (.func n1) #[] l,.func (.func n2) #[] l])∧FF w' w.heap.size o ⟨n1,n2,l⟩∧Below w.heap.size w w'
theorem sfn (a:Addr) (f:Nat) (l:Array Value) (m:Mode) (w:World):(store a (.func (.func f) #[] l) m).run Tryz.prog w = stored Tryz.prog w a (.func (.func f) #[] l) m:=run_store _ w a _ m rfl
theorem cell_other2 {W:World} {b c i j:Nat} {u v:Value} (h:c ≠ b):((W.setCell (U b i) u).setCell (U b j) v).cell? (U c 0) = W.cell? (U c 0):=by
 unfold World.cell?
 rw [yS _ _ _ _ h,yS _ _ _ _ h]
theorem numberField_any (p:Nat) (w:World) :
  Calls Tryz.prog 145 #[.func (.func p) #[] #[]] w fun e w'=>e = .returned (.agg #[.func (.func 184) #[] #[J w.heap.size 0],.func (.func 186) #[] #[J w.heap.size 0]])∧w.heap.size < w'.heap.size∧w'.cell? (U w.heap.size 0) = some (.func (.func p) #[] #[])∧Below w.heap.size w w':=by
 have hsfn:=sfn
 go_enter Tryz.func145,Tryz.ntmps145
 go_wp2
 go_returns
 refine ⟨rfl,by simp; omega,?_,by go_grown⟩
 rw [World.cell?_alloc_old _ _ _ (by show w.heap.size ≠ _; simp)]
 exact R (zq w [.func (.func p) #[] #[]] _) 0 rfl
def fA (w:World):Value:=.func (.func 184) #[] #[J (w.heap.size + 1) 0]
def fB (w:World):Value:=.func (.func 186) #[] #[J (w.heap.size + 1) 0]
def fW (w W1:World):World:=(W1.setCell (U w.heap.size 0) (fA w)).setCell (U w.heap.size 1) (fB w)
theorem fld_end {o:Nat} (h7:¬ o = 7) (h8:¬ o = 8) {w W1:World} (Y:Below w.heap.size w W1) (Q:w.heap.size + 1 < W1.heap.size) (E:W1.cell? (U (w.heap.size + 1) 0) = some (.func (.func (plcV o)) #[] #[])):FEnd o w (.returned (.agg #[fA w,fB w])) (fW w W1):=by
 refine ⟨_,_,_,rfl,?_,(Y.setCell (p:=(U w.heap.size 0)) ya _).setCell (p:=(U w.heap.size 1)) ya _⟩
 unfold FF
 rw [if_neg h7,if_neg h8]
 refine ⟨w.heap.size + 1,rfl,by omega,by simpa [fW] using Q,?_⟩
 rw [fW,cell_other2 (by omega)]
 exact E
theorem cC (w:World):(Calls Tryz.prog 115 #[] w fun e w'=>FEnd 1 w e w')∧(Calls Tryz.prog 108 #[] w fun e w'=>FEnd 2 w e w')∧(Calls Tryz.prog 109 #[] w fun e w'=>FEnd 3 w e w')∧(Calls Tryz.prog 110 #[] w fun e w'=>FEnd 4 w e w')∧(Calls Tryz.prog 111 #[] w fun e w'=>FEnd 5 w e w')∧(Calls Tryz.prog 116 #[] w fun e w'=>FEnd 6 w e w')∧(Calls Tryz.prog 114 #[] w fun e w'=>FEnd 9 w e w')∧(Calls Tryz.prog 118 #[] w fun e w'=>FEnd 10 w e w')∧(Calls Tryz.prog 119 #[] w fun e w'=>FEnd 11 w e w')∧(Calls Tryz.prog 120 #[] w fun e w'=>FEnd 12 w e w')∧(Calls Tryz.prog 117 #[] w fun e w'=>FEnd 13 w e w'):=by
 refine ⟨?_,?_,?_,?_,?_,?_,?_,?_,?_,?_,?_⟩
 all_goals
  have hsfn:=sfn
  have HX:=M (zq w [.nilFunc,.nilFunc] 152)
  have HB:Hid (Below w.heap.size w (w.alloc (A #[.nilFunc,.nilFunc] 152))):=fE _ _
  have hz:(w.alloc (A #[.nilFunc,.nilFunc] 152)).heap.size = w.heap.size + 1:=by simp
  first | go_enter Tryz.func115,Tryz.ntmps115 | go_enter Tryz.func108,Tryz.ntmps108 | go_enter Tryz.func109,Tryz.ntmps109 | go_enter Tryz.func110,Tryz.ntmps110 | go_enter Tryz.func111,Tryz.ntmps111 | go_enter Tryz.func116,Tryz.ntmps116 | go_enter Tryz.func114,Tryz.ntmps114 | go_enter Tryz.func118,Tryz.ntmps118 | go_enter Tryz.func119,Tryz.ntmps119 | go_enter Tryz.func120,Tryz.ntmps120 | go_enter Tryz.func117,Tryz.ntmps117
  go_wp2_with fail
  refine (numberField_any _ _).mono ?_
  rintro e W1 ⟨rfl,Q,E,h3⟩
  have hx:=zg (H HX) h3 (by rw [show (w.alloc (Obj.cells [Value.nilFunc,Value.nilFunc].toArray 152)).heap.size = _ from hz]; omega)
  have ud:Hid (Below w.heap.size w W1):=(H HB).trans (h3.mono (H HB).size)
  rw [hz] at Q E h3 ⊢
  have c0:=R hx 0 rfl
  have c1:=R hx 1 rfl
  have f0:=zd hx 0 (by decide)
  have f1:=zd hx 1 (by decide)
  have qH:=M hx
  have H12:=M (And.intro Q E)
  clear Q E h3 hx hz HX HB
  go_wp2_with fail
  have pl:=bd (j:=1) (u:=fB w) (bd (j:=0) (u:=fA w) (H qH) (by simp)) (by simp)
  have d0:=R pl 0 rfl
  have d1:=R pl 1 rfl
  change bodyPost _ _ _ _ _ (fW w W1)
  refine bodyPost_ret (v:=.agg #[fA w,fB w]) ?_ rfl (fld_end (by decide) (by decide) (H ud) (H H12).1 (H H12).2)
  first | (simp [results,Tryz.f115,go_sem,d0,d1,fW]; done) | (simp [results,Tryz.f108,go_sem,d0,d1,fW]; done) | (simp [results,Tryz.f109,go_sem,d0,d1,fW]; done) | (simp [results,Tryz.f110,go_sem,d0,d1,fW]; done) | (simp [results,Tryz.f111,go_sem,d0,d1,fW]; done) | (simp [results,Tryz.f116,go_sem,d0,d1,fW]; done) | (simp [results,Tryz.f114,go_sem,d0,d1,fW]; done) | (simp [results,Tryz.f118,go_sem,d0,d1,fW]; done) | (simp [results,Tryz.f119,go_sem,d0,d1,fW]; done) | (simp [results,Tryz.f120,go_sem,d0,d1,fW]; done) | (simp [results,Tryz.f117,go_sem,d0,d1,fW]; done)
abbrev mk1_fld (w:World):=(cC w).1
abbrev mk2_fld (w:World):=(cC w).2.1
abbrev mk3_fld (w:World):=(cC w).2.2.1
abbrev mk4_fld (w:World):=(cC w).2.2.2.1
abbrev mk5_fld (w:World):=(cC w).2.2.2.2.1
abbrev mk6_fld (w:World):=(cC w).2.2.2.2.2.1
abbrev mk9_fld (w:World):=(cC w).2.2.2.2.2.2.1
abbrev mk10_fld (w:World):=(cC w).2.2.2.2.2.2.2.1
abbrev mk11_fld (w:World):=(cC w).2.2.2.2.2.2.2.2.1
abbrev mk12_fld (w:World):=(cC w).2.2.2.2.2.2.2.2.2.1
abbrev mk13_fld (w:World):=(cC w).2.2.2.2.2.2.2.2.2.2
theorem mk7_fld (w:World):Calls Tryz.prog 112 #[] w fun e w'=>FEnd 7 w e w':=by
 have hsfn:=sfn
 go_enter Tryz.func112,Tryz.ntmps112
 go_wp2
 go_returns
 exact ⟨_,_,_,rfl,by unfold FF; simp,by go_grown⟩
theorem mk8_fld (w:World):Calls Tryz.prog 113 #[] w fun e w'=>FEnd 8 w e w':=by
 have hsfn:=sfn
 go_enter Tryz.func113,Tryz.ntmps113
 go_wp2
 go_returns
 exact ⟨_,_,_,rfl,by unfold FF; simp,by go_grown⟩
def shF (k:Int):List Nat:=if k = 1 then [2,3,4,5,7,8,9] else if k = 2 then [1,2,3,4,5,6,7,8,13] else if k = 3 then [9,10,11,12] else if k = 4 ∨ k = 5 ∨ k = 6 ∨ k = 7 ∨ k = 9 then [9,11] else if k = 8 then [11] else []
def shC (k:Int):Int:=if k = 1 then 1 else 0
def FFs (W:World) (B:Nat):List Nat→List Fc→Prop
 | [],[]=>True
 | o :: os,c :: L=>FF W B o c∧FFs W B os L
 | _,_=>False
def bS (k:Int) (w:World) (e:Ending) (w':World):Prop:=∃ v fs,e = .returned (.agg #[I (shC k),v])∧OwnR Fc.vs 2 w.heap.size w' v fs∧FFs w' w.heap.size (shF k) fs∧yn w w'
theorem ff_set {B o b j:Nat} {W:World} {c:Fc} {u:Value} (h:FF W B o c) (Y:b < B):FF (W.setCell (U b j) u) B o c:=by
 unfold FF at h ⊢
 split
 ·rwa [if_pos ‹_›] at h
 ·rw [if_neg ‹_›] at h
  split
  ·rwa [if_pos ‹_›] at h
  ·rw [if_neg ‹_›] at h
   obtain ⟨d,Q,E,h3,h4⟩:=h
   refine ⟨d,Q,E,by simpa using h3,?_⟩
   rw [← h4]
   unfold World.cell?
   rw [yS _ _ _ _ (by show d ≠ b; omega)]
theorem fcs_made {B:Nat} (W:World) (fs:List Fc) (t:TypeId) (hB:B ≤ W.heap.size) (hl:fs.length ≤ 1073741824):OwnR Fc.vs 2 B (W.alloc (A (fs.flatMap Fc.vs).toArray t)) (.slice (some (U W.heap.size 0)) fs.length fs.length) fs:=by
 refine ⟨_,_,rfl,hl,fun _=>⟨W.heap.size,rfl,hB,by simp,fun i c hi=>?_,bY (heap_alloc_new W _) (by rw [List.size_toArray,zZ Fc.len]; omega)⟩⟩
 intro j u hu
 have O:j < 2:=(yG.1 hu).1
 rw [Nat.zero_add]
 exact R (zq W (fs.flatMap Fc.vs) t) (i * 2 + j) ((flat_get Fc.len fs i j c hi O).trans hu)
theorem ffs_app {W:World} {B o:Nat} {c:Fc}:∀ {os:List Nat} {fs:List Fc},FFs W B os fs→FF W B o c→FFs W B (os ++ [o]) (fs ++ [c])
 | [],[],_,h=>⟨h,trivial⟩
 | _ :: _,_ :: _,Q,E=>⟨Q.1,ffs_app Q.2 E⟩
theorem ffs_map {W W':World} {B B':Nat} (hm:∀ o c,FF W B o c→FF W' B' o c):∀ {os:List Nat} {fs:List Fc},FFs W B os fs→FFs W' B' os fs
 | [],[],_=>trivial
 | _ :: _,_ :: _,h=>⟨hm _ _ h.1,ffs_map hm h.2⟩
structure SH (w W:World) (os:List Nat) (fs:List Fc):Prop where
 x:Bx W w.heap.size [.int .i64 0,.slice none 0 0]
 b:Below w.heap.size w W
 s:w.heap.size < W.heap.size
 f:FFs W (w.heap.size + 1) os fs
theorem sh_start (w:World):SH w (w.alloc (A #[I 0,.slice none 0 0] 110)) [] []:=⟨zq w [I 0,.slice none 0 0] 110,fE _ _,by simp,trivial⟩
theorem bu {w W W':World} {os:List Nat} {fs:List Fc} {o:Nat} {c:Fc} (h:SH w W os fs) (hf:FF W' W.heap.size o c) (Y:yn W W'):SH w W' (os ++ [o]) (fs ++ [c]) :=
 ⟨zg h.x Y h.s,h.b.trans (Y.mono h.b.size),yJ h.s Y.size,ffs_app (ffs_map (fun _ _ h=>dV h Y ya) h.f) (ff_base hf h.s)⟩
def shW (w W:World) (c:Int) (fs:List Fc):World:=((W.setCell (U w.heap.size 0) (I c)).setCell (U w.heap.size 1) (.slice (some (U W.heap.size 0)) fs.length fs.length)).alloc (A (fs.flatMap Fc.vs).toArray 152)
theorem sh_end {k c:Int} {w W:World} {os:List Nat} {fs:List Fc} (h:SH w W os fs) (N:shF k = os) (hc:shC k = c) (hl:fs.length ≤ 1073741824):bS k w (.returned (.agg #[I c,.slice (some (U W.heap.size 0)) fs.length fs.length])) (shW w W c fs)∧(shW w W c fs).cell? (U w.heap.size 0) = some (I c)∧(shW w W c fs).cell? (U w.heap.size 1) = some (.slice (some (U W.heap.size 0)) fs.length fs.length):=by
 unfold shW
 have pl:=bd (j:=1) (u:=(.slice (some (U W.heap.size 0)) fs.length fs.length)) (bd (j:=0) (u:=I c) h.x (by simp)) (by simp)
 have hv:((W.setCell (U w.heap.size 0) (I c)).setCell (U w.heap.size 1) (.slice (some (U W.heap.size 0)) fs.length fs.length)).heap.size = W.heap.size:=by simp
 have vn:=(h.b.setCell (p:=(U w.heap.size 0)) ya (I c)).setCell (p:=(U w.heap.size 1)) ya (.slice (some (U W.heap.size 0)) fs.length fs.length)
 have hf:=ffs_map (fun _ _ h=>ff_set (b:=w.heap.size) (j:=1) (u:=(.slice (some (U W.heap.size 0)) fs.length fs.length)) (ff_set (b:=w.heap.size) (j:=0) (u:=I c) h (by omega)) (by omega)) h.f
 generalize ((W.setCell (U w.heap.size 0) (I c)).setCell (U w.heap.size 1) (.slice (some (U W.heap.size 0)) fs.length fs.length)) = xn at pl hv vn hf ⊢
 have kI:=fcs_made (B:=w.heap.size) xn fs 152 vn.size hl
 rw [hv] at kI
 have hbA:=fE xn (A (fs.flatMap Fc.vs).toArray 152)
 have hs:=h.s
 have hx3:=zg pl hbA (by omega)
 refine ⟨⟨_,_,by rw [hc],kI,?_,vn.alloc vn.size _⟩,R hx3 0 rfl,R hx3 1 rfl⟩
 rw [N]
 exact ffs_map (fun _ _ h=>ff_base (dV h hbA ya) (by omega)) hf
theorem shp_fin {k c:Int} {w W:World} {os:List Nat} {fs:List Fc} (h:SH w W os fs) (N:shF k = os) (hc:shC k = c) (hl:fs.length ≤ 1073741824):bS k w (.returned (.agg #[I c,.slice (some (U W.heap.size 0)) fs.length fs.length])) (shW w W c fs):=(sh_end h N hc hl).1
theorem shape1_any (w:World):Calls Tryz.prog 68 #[I 1] w fun e w'=>bS 1 w e w':=by
 have H0:=M (sh_start w)
 go_enter Tryz.func68,Tryz.ntmps68
 go_wp2_with fail
 generalize (w.alloc (A #[I 0,.slice none 0 0] 110)) = W0 at H0 ⊢
 refine (mk2_fld W0).mono ?_
 rintro e W1 ⟨a1,b1,l1,rfl,hf,Y⟩
 have H1:=M (bu (H H0) hf Y)
 clear hf Y H0
 go_wp2_with fail
 refine (mk3_fld W1).mono ?_
 rintro e W2 ⟨a2,b2,l2,rfl,hf,Y⟩
 have H2:=M (bu (H H1) hf Y)
 clear hf Y H1
 go_wp2_with fail
 refine (mk4_fld W2).mono ?_
 rintro e W3 ⟨a3,b3,l3,rfl,hf,Y⟩
 have H3:=M (bu (H H2) hf Y)
 clear hf Y H2
 go_wp2_with fail
 refine (mk5_fld W3).mono ?_
 rintro e W4 ⟨a4,b4,l4,rfl,hf,Y⟩
 have H4:=M (bu (H H3) hf Y)
 clear hf Y H3
 go_wp2_with fail
 refine (mk7_fld W4).mono ?_
 rintro e W5 ⟨a5,b5,l5,rfl,hf,Y⟩
 have H5:=M (bu (H H4) hf Y)
 clear hf Y H4
 go_wp2_with fail
 refine (mk8_fld W5).mono ?_
 rintro e W6 ⟨a6,b6,l6,rfl,hf,Y⟩
 have H6:=M (bu (H H5) hf Y)
 clear hf Y H5
 go_wp2_with fail
 refine (mk9_fld W6).mono ?_
 rintro e W7 ⟨a7,b7,l7,rfl,hf,Y⟩
 have H7:=M (bu (H H6) hf Y)
 clear hf Y H6
 have c0:=R (H H7).x 0 rfl
 have c1:=R (H H7).x 1 rfl
 have f0:=zd (H H7).x 0 (by decide)
 have f1:=zd (H H7).x 1 (by decide)
 have hs:=(H H7).s
 go_wp2_with fail
 clear c0 c1 f0 f1
 change bodyPost _ _ _ _ _ (shW w W7 1 [⟨a1,b1,l1⟩,⟨a2,b2,l2⟩,⟨a3,b3,l3⟩,⟨a4,b4,l4⟩,⟨a5,b5,l5⟩,⟨a6,b6,l6⟩,⟨a7,b7,l7⟩])
 obtain ⟨_,d0,d1⟩:=sh_end (k:=1) (c:=1) (H H7) rfl rfl (by simp)
 refine bodyPost_ret (v:=.agg #[I 1,.slice (some (U W7.heap.size 0)) 7 7]) ?_ rfl (shp_fin (H H7) rfl rfl (by simp))
 change (shW w W7 1 [⟨a1,b1,l1⟩,⟨a2,b2,l2⟩,⟨a3,b3,l3⟩,⟨a4,b4,l4⟩,⟨a5,b5,l5⟩,⟨a6,b6,l6⟩,⟨a7,b7,l7⟩]).cell? _ = _ at d0 d1
 generalize shW w W7 1 [⟨a1,b1,l1⟩,⟨a2,b2,l2⟩,⟨a3,b3,l3⟩,⟨a4,b4,l4⟩,⟨a5,b5,l5⟩,⟨a6,b6,l6⟩,⟨a7,b7,l7⟩] = V9 at d0 d1 ⊢
 simp [results,Tryz.f68,go_sem,d0,d1]
theorem shape2_any (w:World):Calls Tryz.prog 68 #[I 2] w fun e w'=>bS 2 w e w':=by
 have H0:=M (sh_start w)
 go_enter Tryz.func68,Tryz.ntmps68
 go_wp2_with fail
 generalize (w.alloc (A #[I 0,.slice none 0 0] 110)) = W0 at H0 ⊢
 refine (mk1_fld W0).mono ?_
 rintro e W1 ⟨a1,b1,l1,rfl,hf,Y⟩
 have H1:=M (bu (H H0) hf Y)
 clear hf Y H0
 go_wp2_with fail
 refine (mk2_fld W1).mono ?_
 rintro e W2 ⟨a2,b2,l2,rfl,hf,Y⟩
 have H2:=M (bu (H H1) hf Y)
 clear hf Y H1
 go_wp2_with fail
 refine (mk3_fld W2).mono ?_
 rintro e W3 ⟨a3,b3,l3,rfl,hf,Y⟩
 have H3:=M (bu (H H2) hf Y)
 clear hf Y H2
 go_wp2_with fail
 refine (mk4_fld W3).mono ?_
 rintro e W4 ⟨a4,b4,l4,rfl,hf,Y⟩
 have H4:=M (bu (H H3) hf Y)
 clear hf Y H3
 go_wp2_with fail
 refine (mk5_fld W4).mono ?_
 rintro e W5 ⟨a5,b5,l5,rfl,hf,Y⟩
 have H5:=M (bu (H H4) hf Y)
 clear hf Y H4
 go_wp2_with fail
 refine (mk6_fld W5).mono ?_
 rintro e W6 ⟨a6,b6,l6,rfl,hf,Y⟩
 have H6:=M (bu (H H5) hf Y)
 clear hf Y H5
 go_wp2_with fail
 refine (mk7_fld W6).mono ?_
 rintro e W7 ⟨a7,b7,l7,rfl,hf,Y⟩
 have H7:=M (bu (H H6) hf Y)
 clear hf Y H6
 go_wp2_with fail
 refine (mk8_fld W7).mono ?_
 rintro e W8 ⟨a8,b8,l8,rfl,hf,Y⟩
 have H8:=M (bu (H H7) hf Y)
 clear hf Y H7
 go_wp2_with fail
 refine (mk13_fld W8).mono ?_
 rintro e W9 ⟨a9,b9,l9,rfl,hf,Y⟩
 have H9:=M (bu (H H8) hf Y)
 clear hf Y H8
 have c0:=R (H H9).x 0 rfl
 have c1:=R (H H9).x 1 rfl
 have f0:=zd (H H9).x 0 (by decide)
 have f1:=zd (H H9).x 1 (by decide)
 have hs:=(H H9).s
 go_wp2_with fail
 clear c0 c1 f0 f1
 change bodyPost _ _ _ _ _ (shW w W9 0 [⟨a1,b1,l1⟩,⟨a2,b2,l2⟩,⟨a3,b3,l3⟩,⟨a4,b4,l4⟩,⟨a5,b5,l5⟩,⟨a6,b6,l6⟩,⟨a7,b7,l7⟩,⟨a8,b8,l8⟩,⟨a9,b9,l9⟩])
 obtain ⟨_,d0,d1⟩:=sh_end (k:=2) (c:=0) (H H9) rfl rfl (by simp)
 refine bodyPost_ret (v:=.agg #[I 0,.slice (some (U W9.heap.size 0)) 9 9]) ?_ rfl (shp_fin (H H9) rfl rfl (by simp))
 change (shW w W9 0 [⟨a1,b1,l1⟩,⟨a2,b2,l2⟩,⟨a3,b3,l3⟩,⟨a4,b4,l4⟩,⟨a5,b5,l5⟩,⟨a6,b6,l6⟩,⟨a7,b7,l7⟩,⟨a8,b8,l8⟩,⟨a9,b9,l9⟩]).cell? _ = _ at d0 d1
 generalize shW w W9 0 [⟨a1,b1,l1⟩,⟨a2,b2,l2⟩,⟨a3,b3,l3⟩,⟨a4,b4,l4⟩,⟨a5,b5,l5⟩,⟨a6,b6,l6⟩,⟨a7,b7,l7⟩,⟨a8,b8,l8⟩,⟨a9,b9,l9⟩] = V9 at d0 d1 ⊢
 simp [results,Tryz.f68,go_sem,d0,d1]
theorem shape3_any (w:World):Calls Tryz.prog 68 #[I 3] w fun e w'=>bS 3 w e w':=by
 have H0:=M (sh_start w)
 go_enter Tryz.func68,Tryz.ntmps68
 go_wp2_with fail
 generalize (w.alloc (A #[I 0,.slice none 0 0] 110)) = W0 at H0 ⊢
 refine (mk9_fld W0).mono ?_
 rintro e W1 ⟨a1,b1,l1,rfl,hf,Y⟩
 have H1:=M (bu (H H0) hf Y)
 clear hf Y H0
 go_wp2_with fail
 refine (mk10_fld W1).mono ?_
 rintro e W2 ⟨a2,b2,l2,rfl,hf,Y⟩
 have H2:=M (bu (H H1) hf Y)
 clear hf Y H1
 go_wp2_with fail
 refine (mk11_fld W2).mono ?_
 rintro e W3 ⟨a3,b3,l3,rfl,hf,Y⟩
 have H3:=M (bu (H H2) hf Y)
 clear hf Y H2
 go_wp2_with fail
 refine (mk12_fld W3).mono ?_
 rintro e W4 ⟨a4,b4,l4,rfl,hf,Y⟩
 have H4:=M (bu (H H3) hf Y)
 clear hf Y H3
 have c0:=R (H H4).x 0 rfl
 have c1:=R (H H4).x 1 rfl
 have f0:=zd (H H4).x 0 (by decide)
 have f1:=zd (H H4).x 1 (by decide)
 have hs:=(H H4).s
 go_wp2_with fail
 clear c0 c1 f0 f1
 change bodyPost _ _ _ _ _ (shW w W4 0 [⟨a1,b1,l1⟩,⟨a2,b2,l2⟩,⟨a3,b3,l3⟩,⟨a4,b4,l4⟩])
 obtain ⟨_,d0,d1⟩:=sh_end (k:=3) (c:=0) (H H4) rfl rfl (by simp)
 refine bodyPost_ret (v:=.agg #[I 0,.slice (some (U W4.heap.size 0)) 4 4]) ?_ rfl (shp_fin (H H4) rfl rfl (by simp))
 change (shW w W4 0 [⟨a1,b1,l1⟩,⟨a2,b2,l2⟩,⟨a3,b3,l3⟩,⟨a4,b4,l4⟩]).cell? _ = _ at d0 d1
 generalize shW w W4 0 [⟨a1,b1,l1⟩,⟨a2,b2,l2⟩,⟨a3,b3,l3⟩,⟨a4,b4,l4⟩] = V9 at d0 d1 ⊢
 simp [results,Tryz.f68,go_sem,d0,d1]
theorem eo (w:World):(Calls Tryz.prog 68 #[I 4] w fun e w'=>bS 4 w e w')∧(Calls Tryz.prog 68 #[I 5] w fun e w'=>bS 5 w e w')∧(Calls Tryz.prog 68 #[I 6] w fun e w'=>bS 6 w e w')∧(Calls Tryz.prog 68 #[I 7] w fun e w'=>bS 7 w e w')∧(Calls Tryz.prog 68 #[I 9] w fun e w'=>bS 9 w e w'):=by
 refine ⟨?_,?_,?_,?_,?_⟩
 all_goals
  have H0:=M (sh_start w)
  go_enter Tryz.func68,Tryz.ntmps68
  go_wp2_with fail
  generalize (w.alloc (A #[I 0,.slice none 0 0] 110)) = W0 at H0 ⊢
  refine (mk9_fld W0).mono ?_
  rintro e W1 ⟨a1,b1,l1,rfl,hf,Y⟩
  have H1:=M (bu (H H0) hf Y)
  clear hf Y H0
  go_wp2_with fail
  refine (mk11_fld W1).mono ?_
  rintro e W2 ⟨a2,b2,l2,rfl,hf,Y⟩
  have H2:=M (bu (H H1) hf Y)
  clear hf Y H1
  have c0:=R (H H2).x 0 rfl
  have c1:=R (H H2).x 1 rfl
  have f0:=zd (H H2).x 0 (by decide)
  have f1:=zd (H H2).x 1 (by decide)
  have hs:=(H H2).s
  go_wp2_with fail
  clear c0 c1 f0 f1
  change bodyPost _ _ _ _ _ (shW w W2 0 [⟨a1,b1,l1⟩,⟨a2,b2,l2⟩])
  obtain ⟨_,d0,d1⟩:=sh_end (k:=4) (c:=0) (H H2) rfl rfl (by simp)
  refine bodyPost_ret (v:=.agg #[I 0,.slice (some (U W2.heap.size 0)) 2 2]) ?_ rfl (shp_fin (H H2) rfl rfl (by simp))
  change (shW w W2 0 [⟨a1,b1,l1⟩,⟨a2,b2,l2⟩]).cell? _ = _ at d0 d1
  generalize shW w W2 0 [⟨a1,b1,l1⟩,⟨a2,b2,l2⟩] = V9 at d0 d1 ⊢
  simp [results,Tryz.f68,go_sem,d0,d1]
theorem shape8_any (w:World):Calls Tryz.prog 68 #[I 8] w fun e w'=>bS 8 w e w':=by
 have H0:=M (sh_start w)
 go_enter Tryz.func68,Tryz.ntmps68
 go_wp2_with fail
 generalize (w.alloc (A #[I 0,.slice none 0 0] 110)) = W0 at H0 ⊢
 refine (mk11_fld W0).mono ?_
 rintro e W1 ⟨a1,b1,l1,rfl,hf,Y⟩
 have H1:=M (bu (H H0) hf Y)
 clear hf Y H0
 have c0:=R (H H1).x 0 rfl
 have c1:=R (H H1).x 1 rfl
 have f0:=zd (H H1).x 0 (by decide)
 have f1:=zd (H H1).x 1 (by decide)
 have hs:=(H H1).s
 go_wp2_with fail
 clear c0 c1 f0 f1
 change bodyPost _ _ _ _ _ (shW w W1 0 [⟨a1,b1,l1⟩])
 obtain ⟨_,d0,d1⟩:=sh_end (k:=8) (c:=0) (H H1) rfl rfl (by simp)
 refine bodyPost_ret (v:=.agg #[I 0,.slice (some (U W1.heap.size 0)) 1 1]) ?_ rfl (shp_fin (H H1) rfl rfl (by simp))
 change (shW w W1 0 [⟨a1,b1,l1⟩]).cell? _ = _ at d0 d1
 generalize shW w W1 0 [⟨a1,b1,l1⟩] = V9 at d0 d1 ⊢
 simp [results,Tryz.f68,go_sem,d0,d1]
abbrev shape4_any (w:World):=(eo w).1
abbrev shape5_any (w:World):=(eo w).2.1
abbrev shape6_any (w:World):=(eo w).2.2.1
abbrev shape7_any (w:World):=(eo w).2.2.2.1
abbrev shape9_any (w:World):=(eo w).2.2.2.2
theorem shapeN_any (k:Int) (w:World) (h:¬ (1 ≤ k∧k ≤ 9)):Calls Tryz.prog 68 #[I k] w fun e w'=>bS k w e w':=by
 have HE:Hid (∀ w',yn w w'→bS k w (.returned (.agg #[I 0,.slice none 0 0])) w'):=fun w' Y=>by
  have Q:shC k = 0:=if_neg (by omega)
  have E:shF k = []:=by unfold shF; rw [if_neg (by omega),if_neg (by omega),if_neg (by omega),if_neg (by omega),if_neg (by omega)]
  unfold bS
  rw [Q,E]
  exact ⟨_,[],rfl,⟨none,0,rfl,by simp,fun h=>absurd rfl h⟩,trivial,Y⟩
 have e1:(k == 1) = false:=xd.2 (by omega)
 have e2:(k == 2) = false:=xd.2 (by omega)
 have e3:(k == 3) = false:=xd.2 (by omega)
 have e4:(k == 4) = false:=xd.2 (by omega)
 have e5:(k == 5) = false:=xd.2 (by omega)
 have e6:(k == 6) = false:=xd.2 (by omega)
 have e7:(k == 7) = false:=xd.2 (by omega)
 have e8:(k == 8) = false:=xd.2 (by omega)
 have e9:(k == 9) = false:=xd.2 (by omega)
 clear h
 go_enter Tryz.func68,Tryz.ntmps68
 go_wp2_with fail
 go_returns
 exact H HE _ (by go_grown)
theorem shape_any (k:Int) (w:World):Calls Tryz.prog 68 #[I k] w fun e w'=>bS k w e w':=by
 by_cases h:1 ≤ k∧k ≤ 9
 ·rcases (show k = 1 ∨ k = 2 ∨ k = 3 ∨ k = 4 ∨ k = 5 ∨ k = 6 ∨ k = 7 ∨ k = 8 ∨ k = 9 by omega) with rfl | rfl | rfl | rfl | rfl | rfl | rfl | rfl | rfl
  ·exact shape1_any w
  ·exact shape2_any w
  ·exact shape3_any w
  ·exact shape4_any w
  ·exact shape5_any w
  ·exact shape6_any w
  ·exact shape7_any w
  ·exact shape8_any w
  ·exact shape9_any w
 ·exact shapeN_any k w h
theorem plc1_any (g:Nat) (w:World):Calls Tryz.prog 155 #[J g 0] w fun e w'=>e = .returned (J g 1)∧w' = w:=by
 go_enter Tryz.func155,Tryz.ntmps155
 go_wp2
 go_ret
 exact ⟨rfl,rfl⟩
theorem plc2_any (g:Nat) (w:World):Calls Tryz.prog 146 #[J g 0] w fun e w'=>e = .returned (J g 2)∧w' = w:=by
 go_enter Tryz.func146,Tryz.ntmps146
 go_wp2
 go_ret
 exact ⟨rfl,rfl⟩
theorem plc3_any (g:Nat) (w:World):Calls Tryz.prog 147 #[J g 0] w fun e w'=>e = .returned (J g 3)∧w' = w:=by
 go_enter Tryz.func147,Tryz.ntmps147
 go_wp2
 go_ret
 exact ⟨rfl,rfl⟩
theorem plc4_any (g:Nat) (w:World):Calls Tryz.prog 148 #[J g 0] w fun e w'=>e = .returned (J g 4)∧w' = w:=by
 go_enter Tryz.func148,Tryz.ntmps148
 go_wp2
 go_ret
 exact ⟨rfl,rfl⟩
theorem plc5_any (g:Nat) (w:World):Calls Tryz.prog 149 #[J g 0] w fun e w'=>e = .returned (J g 5)∧w' = w:=by
 go_enter Tryz.func149,Tryz.ntmps149
 go_wp2
 go_ret
 exact ⟨rfl,rfl⟩
theorem plc6_any (g:Nat) (w:World):Calls Tryz.prog 156 #[J g 0] w fun e w'=>e = .returned (J g 6)∧w' = w:=by
 go_enter Tryz.func156,Tryz.ntmps156
 go_wp2
 go_ret
 exact ⟨rfl,rfl⟩
theorem plc9_any (g:Nat) (w:World):Calls Tryz.prog 154 #[J g 0] w fun e w'=>e = .returned (J g 9)∧w' = w:=by
 go_enter Tryz.func154,Tryz.ntmps154
 go_wp2
 go_ret
 exact ⟨rfl,rfl⟩
theorem plc10_any (g:Nat) (w:World):Calls Tryz.prog 158 #[J g 0] w fun e w'=>e = .returned (J g 10)∧w' = w:=by
 go_enter Tryz.func158,Tryz.ntmps158
 go_wp2
 go_ret
 exact ⟨rfl,rfl⟩
theorem plc11_any (g:Nat) (w:World):Calls Tryz.prog 159 #[J g 0] w fun e w'=>e = .returned (J g 11)∧w' = w:=by
 go_enter Tryz.func159,Tryz.ntmps159
 go_wp2
 go_ret
 exact ⟨rfl,rfl⟩
theorem plc12_any (g:Nat) (w:World):Calls Tryz.prog 160 #[J g 0] w fun e w'=>e = .returned (J g 12)∧w' = w:=by
 go_enter Tryz.func160,Tryz.ntmps160
 go_wp2
 go_ret
 exact ⟨rfl,rfl⟩
theorem plc13_any (g:Nat) (w:World):Calls Tryz.prog 157 #[J g 0] w fun e w'=>e = .returned (J g 13)∧w' = w:=by
 go_enter Tryz.func157,Tryz.ntmps157
 go_wp2
 go_ret
 exact ⟨rfl,rfl⟩
def plcO (o:Nat):Bool:=(1 ≤ o && o ≤ 6) || (9 ≤ o && o ≤ 13)
theorem plc_any (o g:Nat) (w:World) (h:plcO o = true):Calls Tryz.prog (plcV o) #[J g 0] w fun e w'=>e = .returned (J g o)∧w' = w:=by
 rcases (show o = 1 ∨ o = 2 ∨ o = 3 ∨ o = 4 ∨ o = 5 ∨ o = 6 ∨ o = 9 ∨ o = 10 ∨ o = 11 ∨ o = 12 ∨ o = 13 by simp [plcO] at h; omega) with rfl | rfl | rfl | rfl | rfl | rfl | rfl | rfl | rfl | rfl | rfl
 ·exact plc1_any g w
 ·exact plc2_any g w
 ·exact plc3_any g w
 ·exact plc4_any g w
 ·exact plc5_any g w
 ·exact plc6_any g w
 ·exact plc9_any g w
 ·exact plc10_any g w
 ·exact plc11_any g w
 ·exact plc12_any g w
 ·exact plc13_any g w
structure Rdr (B:Nat) (w:World) (v:Value) (k:Int):Prop where
 bytes:w.cell? ⟨B,0,none⟩ = some v
 place:w.cell? ⟨B,1,none⟩ = some (.int .i64 k)
 free:w.frozen? ⟨B,1,none⟩ = false
theorem Rdr.drewN {B:Nat} {w:World} {v:Value} {k:Int} (h:Rdr B w v k) (n:Nat):Rdr B (w.drewN n) v k:=⟨h.1,h.2,h.3⟩
theorem Rdr.step {B:Nat} {w:World} {v:Value} {k:Int} (h:Rdr B w v k) (m:Int):Rdr B (w.setCell ⟨B,1,none⟩ (I m)) v m :=
 ⟨by rw [yL _ _ _ _ (cy (by omega))]; exact h.1,yM _ _ _ h.2,by rw [World.frozen?_setCell]; exact h.3⟩
def bO (c k:Int):List PanicEntry:=[{ v:=.iface 224 (.agg #[I c,I k]),recovered:=false }]
theorem cO (B:Nat) (c k:Int) (v:Value) (w:World) (hr:Rdr B w v k) :
  Calls Tryz.prog 164 #[.pointer (some ⟨B,0,none⟩),I c] w fun e w'=>e = .panicked (bO c k)∧w' = w:=by
 have E:=hr.2
 clear hr
 go_enter Tryz.func164,Tryz.ntmps164
 go_wp2
 exact ⟨rfl,rfl,rfl⟩
theorem take_end (B:Nat) (c k:Int) (a:Option Addr) (len cap:Nat) (w:World) (hr:Rdr B w (.slice a len cap) k) (h0:0 ≤ k) (Q:k ≤ len) (hl:len ≤ 1073741824) (hc:(len:Int) - k < c) (jp:c ≤ 1073741824) :
  Calls Tryz.prog 163 #[.pointer (some ⟨B,0,none⟩),I c] w fun e w'=>e = .panicked (bO 3 k)∧∃ q,w' = w.drewN q:=by
 have HR:=M hr
 obtain ⟨c1,c2,c3⟩:=hr
 go_enter Tryz.func163,Tryz.ntmps163
 go_wp2_with fail
 go_quiet (fail)
 go_wp2_with fail
 refine (cO B 3 k _ _ ((H HR).drewN _)).mono ?_
 rintro e w1 ⟨rfl,rfl⟩
 go_wp2_with fail
 exact ⟨rfl,rfl,_,rfl⟩
theorem take_ok (B:Nat) (c k:Nat) (b off len cap:Nat) (w:World) (hr:Rdr B w (.slice (some ⟨b,off,none⟩) len cap) k) (Q:k + c ≤ len) (hl:len ≤ 1073741824) (uq:len ≤ cap) (jp:1 ≤ c) :
  Calls Tryz.prog 163 #[.pointer (some ⟨B,0,none⟩),I c] w fun e w'=>e = .returned (.slice (some ⟨b,off + k,none⟩) c (cap - k))∧∃ q,w' = (w.setCell ⟨B,1,none⟩ (I (k + c:Nat))).drewN q:=by
 have HR:=M hr
 obtain ⟨c1,c2,c3⟩:=hr
 have pu:(k:Int) + c ≤ len:=by omega
 have oI:¬ ((len:Int) - k < c):=by omega
 have h3':(k:Int) + c ≤ cap:=by omega
 have xD:¬ (cap = k):=by omega
 go_enter Tryz.func163,Tryz.ntmps163
 go_wp2_with fail
 go_quiet (fail)
 go_wp2_with fail
 go_quiet (fail)
 go_wp2_with fail
 go_ret
 refine ⟨by simp,_,by congr 3⟩
theorem check_ok (B:Nat) (k:Int) (a:Option Addr) (len cap:Nat) (w:World) (hr:Rdr B w (.slice a len cap) k) (h0:0 ≤ k) (Q:k ≤ len) (hl:len ≤ 65536) :
  Calls Tryz.prog 193 #[.pointer (some ⟨B,0,none⟩)] w fun e w'=>e = .returned (.tuple #[])∧∃ q,w' = w.drewN q:=by
 obtain ⟨c1,c2,c3⟩:=hr
 have pB:(len:Int) ≤ 65536:=by omega
 have hd:decide (k < 0) = false:=by simpa using h0
 go_enter Tryz.func193,Tryz.ntmps193
 go_wp2_with fail
 go_quiet (fail)
 go_wp2_with fail
 go_end0
 exact ⟨rfl,_,rfl⟩
theorem check_long (B:Nat) (k:Int) (a:Option Addr) (len cap:Nat) (w:World) (hr:Rdr B w (.slice a len cap) k) (hl:65536 < len) :
  Calls Tryz.prog 193 #[.pointer (some ⟨B,0,none⟩)] w fun e w'=>e = .panicked (bO 2 k)∧∃ q,w' = w.drewN q:=by
 have HR:=M hr
 obtain ⟨c1,c2,c3⟩:=hr
 have pB:(65536:Int) < len:=by omega
 go_enter Tryz.func193,Tryz.ntmps193
 go_wp2_with fail
 refine (cO B 2 k _ _ (H HR)).mono ?_
 rintro e w1 ⟨rfl,rfl⟩
 go_wp2_with fail
 exact ⟨rfl,rfl,0,rfl⟩
theorem check_out (B:Nat) (k:Int) (a:Option Addr) (len cap:Nat) (w:World) (hr:Rdr B w (.slice a len cap) k) (h:k < 0 ∨ (len:Int) < k) (hl:len ≤ 65536) :
  Calls Tryz.prog 193 #[.pointer (some ⟨B,0,none⟩)] w fun e w'=>e = .panicked (bO 5 k)∧∃ q,w' = w.drewN q:=by
 have HR:=M hr
 obtain ⟨c1,c2,c3⟩:=hr
 have pB:(len:Int) ≤ 65536:=by omega
 rcases (show k < 0 ∨ (0 ≤ k∧(len:Int) < k) by omega) with h0 | ⟨h0,Q⟩
 ·have hd:decide (k < 0) = true:=by simpa using h0
  clear h
  go_enter Tryz.func193,Tryz.ntmps193
  go_wp2_with fail
  go_quiet (fail)
  go_wp2_with fail
  refine (cO B 5 k _ _ ((H HR).drewN _)).mono ?_
  rintro e w1 ⟨rfl,rfl⟩
  go_wp2_with fail
  exact ⟨rfl,rfl,_,rfl⟩
 ·have hd:decide (k < 0) = false:=by simpa using h0
  clear h
  go_enter Tryz.func193,Tryz.ntmps193
  go_wp2_with fail
  go_quiet (fail)
  go_wp2_with fail
  refine (cO B 5 k _ _ ((H HR).drewN _)).mono ?_
  rintro e w1 ⟨rfl,rfl⟩
  go_wp2_with fail
  exact ⟨rfl,rfl,_,rfl⟩
end Go.Proofs.YtnphbkgfjanmgaaGreatDoor
