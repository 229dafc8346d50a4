/-
  The fields of events, as the program makes them: proved by walking the functions.
-/
import Derived.Test.YtnphbkgfjanmgaaGreatDoorDj19
set_option linter.unusedVariables false
set_option maxHeartbeats 6400000
set_option maxRecDepth 100000
namespace Go.Proofs.YtnphbkgfjanmgaaGreatDoor
open Go.RowKit
structure Fc where
 n1:Nat
 n2:Nat
 l:Array Value
def Fc.vs (c:Fc):List Value:=[.func (.func c.n1) #[] c.l,.func (.func c.n2) #[] c.l]
theorem Fc.len (c:Fc):c.vs.length = 2:=rfl
def plcV (o:Nat):Nat:=match o with
 | 1=>155
 | 2=>146
 | 3=>147
 | 4=>148
 | 5=>149
 | 6=>156
 | 9=>154
 | 10=>158
 | 11=>159
 | 12=>160
 | 13=>157
 | _=>0
def FF (W:World) (B o:Nat) (c:Fc):Prop :=
 if o = 7 then c = ⟨150,151,#[]⟩ else if o = 8 then c = ⟨152,153,#[]⟩ else
  ∃ b,c = ⟨184,186,#[J b 0]⟩∧B ≤ b∧b < W.heap.size∧W.cell? (Q b 0) = some (.func (.func (plcV o)) #[] #[])
theorem dQ {B C o:Nat} {W W':World} {c:Fc} (h:FF W B o c) (E:Below C W W') (hC:W.heap.size ≤ C):FF W' B o c:=by
 unfold FF at h ⊢
 split
 ·rwa [if_pos ‹_›] at h
 ·rw [if_neg ‹_›] at h
  split
  ·rwa [if_pos ‹_›] at h
  ·rw [if_neg ‹_›] at h
   obtain ⟨b,N,Y,h3,h4⟩:=h
   exact ⟨b,N,Y,yK h3 E.size,(E.cell (p:=(Q b 0)) (yK h3 hC)).trans h4⟩
theorem ff_base {B B' o:Nat} {W:World} {c:Fc} (h:FF W B o c) (hB:B' ≤ B):FF W B' o c:=by
 unfold FF at h ⊢
 split
 ·rwa [if_pos ‹_›] at h
 ·rw [if_neg ‹_›] at h
  split
  ·rwa [if_pos ‹_›] at h
  ·rw [if_neg ‹_›] at h
   obtain ⟨b,N,Y,h3,h4⟩:=h
   exact ⟨b,N,yO hB Y,h3,h4⟩
def FEnd (o:Nat) (w:World) (e:Ending) (w':World):Prop:=∃ n1 n2 l,e = .returned (.agg #[.func (.func n1) #[] l,.func (.func n2) #[] l])∧FF w' w.heap.size o ⟨n1,n2,l⟩∧Below w.heap.size w w'
theorem sfn (a:Addr) (f:Nat) (l:Array Value) (m:Mode) (w:World):(store a (.func (.func f) #[] l) m).run Tryz.prog w = stored Tryz.prog w a (.func (.func f) #[] l) m:=run_store _ w a _ m rfl
theorem cell_other2 {W:World} {b c i j:Nat} {u v:Value} (h:c ≠ b):((W.setCell (Q b i) u).setCell (Q b j) v).cell? (Q c 0) = W.cell? (Q c 0):=by
 unfold World.cell?
 rw [yT _ _ _ _ h,yT _ _ _ _ h]
theorem numberField_any (p:Nat) (w:World) :
  Calls Tryz.prog 145 #[.func (.func p) #[] #[]] w fun e w'=>e = .returned (.agg #[.func (.func 184) #[] #[J w.heap.size 0],.func (.func 186) #[] #[J w.heap.size 0]])∧w.heap.size < w'.heap.size∧w'.cell? (Q w.heap.size 0) = some (.func (.func p) #[] #[])∧Below w.heap.size w w':=by
 have hsfn:=sfn
 go_enter Tryz.func145,Tryz.ntmps145
 go_wp2
 go_returns
 refine ⟨rfl,by simp; omega,?_,by go_grown⟩
 rw [World.cell?_alloc_old _ _ _ (by show w.heap.size ≠ _; simp)]
 exact K (zq w [.func (.func p) #[] #[]] _) 0 rfl
def fA (w:World):Value:=.func (.func 184) #[] #[J (w.heap.size + 1) 0]
def fB (w:World):Value:=.func (.func 186) #[] #[J (w.heap.size + 1) 0]
def fW (w W1:World):World:=(W1.setCell (Q w.heap.size 0) (fA w)).setCell (Q w.heap.size 1) (fB w)
theorem fld_end {o:Nat} (h7:¬ o = 7) (h8:¬ o = 8) {w W1:World} (E:Below w.heap.size w W1) (N:w.heap.size + 1 < W1.heap.size) (Y:W1.cell? (Q (w.heap.size + 1) 0) = some (.func (.func (plcV o)) #[] #[])):FEnd o w (.returned (.agg #[fA w,fB w])) (fW w W1):=by
 refine ⟨_,_,_,rfl,?_,(E.setCell (p:=(Q w.heap.size 0)) yb _).setCell (p:=(Q w.heap.size 1)) yb _⟩
 unfold FF
 rw [if_neg h7,if_neg h8]
 refine ⟨w.heap.size + 1,rfl,by omega,by simpa [fW] using N,?_⟩
 rw [fW,cell_other2 (by omega)]
 exact Y
theorem cj (w:World):(Calls Tryz.prog 115 #[] w fun e w'=>FEnd 1 w e w')∧(Calls Tryz.prog 108 #[] w fun e w'=>FEnd 2 w e w')∧(Calls Tryz.prog 109 #[] w fun e w'=>FEnd 3 w e w')∧(Calls Tryz.prog 110 #[] w fun e w'=>FEnd 4 w e w')∧(Calls Tryz.prog 111 #[] w fun e w'=>FEnd 5 w e w')∧(Calls Tryz.prog 116 #[] w fun e w'=>FEnd 6 w e w')∧(Calls Tryz.prog 114 #[] w fun e w'=>FEnd 9 w e w')∧(Calls Tryz.prog 118 #[] w fun e w'=>FEnd 10 w e w')∧(Calls Tryz.prog 119 #[] w fun e w'=>FEnd 11 w e w')∧(Calls Tryz.prog 120 #[] w fun e w'=>FEnd 12 w e w')∧(Calls Tryz.prog 117 #[] w fun e w'=>FEnd 13 w e w'):=by
 refine ⟨?_,?_,?_,?_,?_,?_,?_,?_,?_,?_,?_⟩
 all_goals
  have hsfn:=sfn
  have HX:=H (zq w [.nilFunc,.nilFunc] 152)
  have HB:Hid (Below w.heap.size w (w.alloc (L #[.nilFunc,.nilFunc] 152))):=fw _ _
  have hz:(w.alloc (L #[.nilFunc,.nilFunc] 152)).heap.size = w.heap.size + 1:=by simp
  first | go_enter Tryz.func115,Tryz.ntmps115 | go_enter Tryz.func108,Tryz.ntmps108 | go_enter Tryz.func109,Tryz.ntmps109 | go_enter Tryz.func110,Tryz.ntmps110 | go_enter Tryz.func111,Tryz.ntmps111 | go_enter Tryz.func116,Tryz.ntmps116 | go_enter Tryz.func114,Tryz.ntmps114 | go_enter Tryz.func118,Tryz.ntmps118 | go_enter Tryz.func119,Tryz.ntmps119 | go_enter Tryz.func120,Tryz.ntmps120 | go_enter Tryz.func117,Tryz.ntmps117
  go_wp2_with fail
  refine (numberField_any _ _).mono ?_
  rintro e W1 ⟨rfl,N,Y,h3⟩
  have hx:=zf (U HX) h3 (by rw [show (w.alloc (Obj.cells [Value.nilFunc,Value.nilFunc].toArray 152)).heap.size = _ from hz]; omega)
  have ue:Hid (Below w.heap.size w W1):=(U HB).trans (h3.mono (U HB).size)
  rw [hz] at N Y h3 ⊢
  have c0:=K hx 0 rfl
  have c1:=K hx 1 rfl
  have f0:=zd hx 0 (by decide)
  have f1:=zd hx 1 (by decide)
  have qG:=H hx
  have H12:=H (And.intro N Y)
  clear N Y h3 hx hz HX HB
  go_wp2_with fail
  have pg:=aX (j:=1) (u:=fB w) (aX (j:=0) (u:=fA w) (U qG) (by simp)) (by simp)
  have d0:=K pg 0 rfl
  have d1:=K pg 1 rfl
  change bodyPost _ _ _ _ _ (fW w W1)
  refine bodyPost_ret (v:=.agg #[fA w,fB w]) ?_ rfl (fld_end (by decide) (by decide) (U ue) (U H12).1 (U H12).2)
  first | (simp [results,Tryz.f115,go_sem,d0,d1,fW]; done) | (simp [results,Tryz.f108,go_sem,d0,d1,fW]; done) | (simp [results,Tryz.f109,go_sem,d0,d1,fW]; done) | (simp [results,Tryz.f110,go_sem,d0,d1,fW]; done) | (simp [results,Tryz.f111,go_sem,d0,d1,fW]; done) | (simp [results,Tryz.f116,go_sem,d0,d1,fW]; done) | (simp [results,Tryz.f114,go_sem,d0,d1,fW]; done) | (simp [results,Tryz.f118,go_sem,d0,d1,fW]; done) | (simp [results,Tryz.f119,go_sem,d0,d1,fW]; done) | (simp [results,Tryz.f120,go_sem,d0,d1,fW]; done) | (simp [results,Tryz.f117,go_sem,d0,d1,fW]; done)
abbrev mk1_fld (w:World):=(cj w).1
abbrev mk2_fld (w:World):=(cj w).2.1
abbrev mk3_fld (w:World):=(cj w).2.2.1
abbrev mk4_fld (w:World):=(cj w).2.2.2.1
abbrev mk5_fld (w:World):=(cj w).2.2.2.2.1
abbrev mk6_fld (w:World):=(cj w).2.2.2.2.2.1
abbrev mk9_fld (w:World):=(cj w).2.2.2.2.2.2.1
abbrev mk10_fld (w:World):=(cj w).2.2.2.2.2.2.2.1
abbrev mk11_fld (w:World):=(cj w).2.2.2.2.2.2.2.2.1
abbrev mk12_fld (w:World):=(cj w).2.2.2.2.2.2.2.2.2.1
abbrev mk13_fld (w:World):=(cj w).2.2.2.2.2.2.2.2.2.2
theorem mk7_fld (w:World):Calls Tryz.prog 112 #[] w fun e w'=>FEnd 7 w e w':=by
 have hsfn:=sfn
 go_enter Tryz.func112,Tryz.ntmps112
 go_wp2
 go_returns
 exact ⟨_,_,_,rfl,by unfold FF; simp,by go_grown⟩
theorem mk8_fld (w:World):Calls Tryz.prog 113 #[] w fun e w'=>FEnd 8 w e w':=by
 have hsfn:=sfn
 go_enter Tryz.func113,Tryz.ntmps113
 go_wp2
 go_returns
 exact ⟨_,_,_,rfl,by unfold FF; simp,by go_grown⟩
def shF (k:Int):List Nat:=if k = 1 then [2,3,4,5,7,8,9] else if k = 2 then [1,2,3,4,5,6,7,8,13] else if k = 3 then [9,10,11,12] else if k = 4 ∨ k = 5 ∨ k = 6 ∨ k = 7 ∨ k = 9 then [9,11] else if k = 8 then [11] else []
def shC (k:Int):Int:=if k = 1 then 1 else 0
def FFs (W:World) (B:Nat):List Nat→List Fc→Prop
 | [],[]=>True
 | o :: os,c :: A=>FF W B o c∧FFs W B os A
 | _,_=>False
def bM (k:Int) (w:World) (e:Ending) (w':World):Prop:=∃ v fs,e = .returned (.agg #[I (shC k),v])∧OwnR Fc.vs 2 w.heap.size w' v fs∧FFs w' w.heap.size (shF k) fs∧yp w w'
theorem ff_set {B o b j:Nat} {W:World} {c:Fc} {u:Value} (h:FF W B o c) (E:b < B):FF (W.setCell (Q b j) u) B o c:=by
 unfold FF at h ⊢
 split
 ·rwa [if_pos ‹_›] at h
 ·rw [if_neg ‹_›] at h
  split
  ·rwa [if_pos ‹_›] at h
  ·rw [if_neg ‹_›] at h
   obtain ⟨d,N,Y,h3,h4⟩:=h
   refine ⟨d,N,Y,by simpa using h3,?_⟩
   rw [← h4]
   unfold World.cell?
   rw [yT _ _ _ _ (by show d ≠ b; omega)]
theorem fcs_made {B:Nat} (W:World) (fs:List Fc) (t:TypeId) (hB:B ≤ W.heap.size) (hl:fs.length ≤ 1073741824):OwnR Fc.vs 2 B (W.alloc (L (fs.flatMap Fc.vs).toArray t)) (.slice (some (Q W.heap.size 0)) fs.length fs.length) fs:=by
 refine ⟨_,_,rfl,hl,fun _=>⟨W.heap.size,rfl,hB,by simp,fun i c hi=>?_,bR (heap_alloc_new W _) (by rw [List.size_toArray,zZ Fc.len]; omega)⟩⟩
 intro j u hu
 have V:j < 2:=(yH.1 hu).1
 rw [Nat.zero_add]
 exact K (zq W (fs.flatMap Fc.vs) t) (i * 2 + j) ((flat_get Fc.len fs i j c hi V).trans hu)
theorem ffs_app {W:World} {B o:Nat} {c:Fc}:∀ {os:List Nat} {fs:List Fc},FFs W B os fs→FF W B o c→FFs W B (os ++ [o]) (fs ++ [c])
 | [],[],_,h=>⟨h,trivial⟩
 | _ :: _,_ :: _,N,Y=>⟨N.1,ffs_app N.2 Y⟩
theorem ffs_map {W W':World} {B B':Nat} (hm:∀ o c,FF W B o c→FF W' B' o c):∀ {os:List Nat} {fs:List Fc},FFs W B os fs→FFs W' B' os fs
 | [],[],_=>trivial
 | _ :: _,_ :: _,h=>⟨hm _ _ h.1,ffs_map hm h.2⟩
structure SH (w W:World) (os:List Nat) (fs:List Fc):Prop where
 x:Bx W w.heap.size [.int .i64 0,.slice none 0 0]
 b:Below w.heap.size w W
 s:w.heap.size < W.heap.size
 f:FFs W (w.heap.size + 1) os fs
theorem sh_start (w:World):SH w (w.alloc (L #[I 0,.slice none 0 0] 110)) [] []:=⟨zq w [I 0,.slice none 0 0] 110,fw _ _,by simp,trivial⟩
theorem bh {w W W':World} {os:List Nat} {fs:List Fc} {o:Nat} {c:Fc} (h:SH w W os fs) (hf:FF W' W.heap.size o c) (E:yp W W'):SH w W' (os ++ [o]) (fs ++ [c]) :=
 ⟨zf h.x E h.s,h.b.trans (E.mono h.b.size),yK h.s E.size,ffs_app (ffs_map (fun _ _ h=>dQ h E yb) h.f) (ff_base hf h.s)⟩
def shW (w W:World) (c:Int) (fs:List Fc):World:=((W.setCell (Q w.heap.size 0) (I c)).setCell (Q w.heap.size 1) (.slice (some (Q W.heap.size 0)) fs.length fs.length)).alloc (L (fs.flatMap Fc.vs).toArray 152)
theorem sh_end {k c:Int} {w W:World} {os:List Nat} {fs:List Fc} (h:SH w W os fs) (Z:shF k = os) (hc:shC k = c) (hl:fs.length ≤ 1073741824):bM k w (.returned (.agg #[I c,.slice (some (Q W.heap.size 0)) fs.length fs.length])) (shW w W c fs)∧(shW w W c fs).cell? (Q w.heap.size 0) = some (I c)∧(shW w W c fs).cell? (Q w.heap.size 1) = some (.slice (some (Q W.heap.size 0)) fs.length fs.length):=by
 unfold shW
 have pg:=aX (j:=1) (u:=(.slice (some (Q W.heap.size 0)) fs.length fs.length)) (aX (j:=0) (u:=I c) h.x (by simp)) (by simp)
 have hv:((W.setCell (Q w.heap.size 0) (I c)).setCell (Q w.heap.size 1) (.slice (some (Q W.heap.size 0)) fs.length fs.length)).heap.size = W.heap.size:=by simp
 have vj:=(h.b.setCell (p:=(Q w.heap.size 0)) yb (I c)).setCell (p:=(Q w.heap.size 1)) yb (.slice (some (Q W.heap.size 0)) fs.length fs.length)
 have hf:=ffs_map (fun _ _ h=>ff_set (b:=w.heap.size) (j:=1) (u:=(.slice (some (Q W.heap.size 0)) fs.length fs.length)) (ff_set (b:=w.heap.size) (j:=0) (u:=I c) h (by omega)) (by omega)) h.f
 generalize ((W.setCell (Q w.heap.size 0) (I c)).setCell (Q w.heap.size 1) (.slice (some (Q W.heap.size 0)) fs.length fs.length)) = hj at pg hv vj hf ⊢
 have kE:=fcs_made (B:=w.heap.size) hj fs 152 vj.size hl
 rw [hv] at kE
 have hbA:=fw hj (L (fs.flatMap Fc.vs).toArray 152)
 have hs:=h.s
 have hx3:=zf pg hbA (by omega)
 refine ⟨⟨_,_,by rw [hc],kE,?_,vj.alloc vj.size _⟩,K hx3 0 rfl,K hx3 1 rfl⟩
 rw [Z]
 exact ffs_map (fun _ _ h=>ff_base (dQ h hbA yb) (by omega)) hf
theorem shp_fin {k c:Int} {w W:World} {os:List Nat} {fs:List Fc} (h:SH w W os fs) (Z:shF k = os) (hc:shC k = c) (hl:fs.length ≤ 1073741824):bM k w (.returned (.agg #[I c,.slice (some (Q W.heap.size 0)) fs.length fs.length])) (shW w W c fs):=(sh_end h Z hc hl).1
theorem shape1_any (w:World):Calls Tryz.prog 68 #[I 1] w fun e w'=>bM 1 w e w':=by
 have H0:=H (sh_start w)
 go_enter Tryz.func68,Tryz.ntmps68
 go_wp2_with fail
 generalize (w.alloc (L #[I 0,.slice none 0 0] 110)) = W0 at H0 ⊢
 refine (mk2_fld W0).mono ?_
 rintro e W1 ⟨a1,b1,l1,rfl,hf,E⟩
 have H1:=H (bh (U H0) hf E)
 clear hf E H0
 go_wp2_with fail
 refine (mk3_fld W1).mono ?_
 rintro e W2 ⟨a2,b2,l2,rfl,hf,E⟩
 have H2:=H (bh (U H1) hf E)
 clear hf E H1
 go_wp2_with fail
 refine (mk4_fld W2).mono ?_
 rintro e W3 ⟨a3,b3,l3,rfl,hf,E⟩
 have H3:=H (bh (U H2) hf E)
 clear hf E H2
 go_wp2_with fail
 refine (mk5_fld W3).mono ?_
 rintro e W4 ⟨a4,b4,l4,rfl,hf,E⟩
 have H4:=H (bh (U H3) hf E)
 clear hf E H3
 go_wp2_with fail
 refine (mk7_fld W4).mono ?_
 rintro e W5 ⟨a5,b5,l5,rfl,hf,E⟩
 have H5:=H (bh (U H4) hf E)
 clear hf E H4
 go_wp2_with fail
 refine (mk8_fld W5).mono ?_
 rintro e W6 ⟨a6,b6,l6,rfl,hf,E⟩
 have H6:=H (bh (U H5) hf E)
 clear hf E H5
 go_wp2_with fail
 refine (mk9_fld W6).mono ?_
 rintro e W7 ⟨a7,b7,l7,rfl,hf,E⟩
 have H7:=H (bh (U H6) hf E)
 clear hf E H6
 have c0:=K (U H7).x 0 rfl
 have c1:=K (U H7).x 1 rfl
 have f0:=zd (U H7).x 0 (by decide)
 have f1:=zd (U H7).x 1 (by decide)
 have hs:=(U H7).s
 go_wp2_with fail
 clear c0 c1 f0 f1
 change bodyPost _ _ _ _ _ (shW w W7 1 [⟨a1,b1,l1⟩,⟨a2,b2,l2⟩,⟨a3,b3,l3⟩,⟨a4,b4,l4⟩,⟨a5,b5,l5⟩,⟨a6,b6,l6⟩,⟨a7,b7,l7⟩])
 obtain ⟨_,d0,d1⟩:=sh_end (k:=1) (c:=1) (U H7) rfl rfl (by simp)
 refine bodyPost_ret (v:=.agg #[I 1,.slice (some (Q W7.heap.size 0)) 7 7]) ?_ rfl (shp_fin (U H7) rfl rfl (by simp))
 change (shW w W7 1 [⟨a1,b1,l1⟩,⟨a2,b2,l2⟩,⟨a3,b3,l3⟩,⟨a4,b4,l4⟩,⟨a5,b5,l5⟩,⟨a6,b6,l6⟩,⟨a7,b7,l7⟩]).cell? _ = _ at d0 d1
 generalize shW w W7 1 [⟨a1,b1,l1⟩,⟨a2,b2,l2⟩,⟨a3,b3,l3⟩,⟨a4,b4,l4⟩,⟨a5,b5,l5⟩,⟨a6,b6,l6⟩,⟨a7,b7,l7⟩] = V9 at d0 d1 ⊢
 simp [results,Tryz.f68,go_sem,d0,d1]
theorem shape2_any (w:World):Calls Tryz.prog 68 #[I 2] w fun e w'=>bM 2 w e w':=by
 have H0:=H (sh_start w)
 go_enter Tryz.func68,Tryz.ntmps68
 go_wp2_with fail
 generalize (w.alloc (L #[I 0,.slice none 0 0] 110)) = W0 at H0 ⊢
 refine (mk1_fld W0).mono ?_
 rintro e W1 ⟨a1,b1,l1,rfl,hf,E⟩
 have H1:=H (bh (U H0) hf E)
 clear hf E H0
 go_wp2_with fail
 refine (mk2_fld W1).mono ?_
 rintro e W2 ⟨a2,b2,l2,rfl,hf,E⟩
 have H2:=H (bh (U H1) hf E)
 clear hf E H1
 go_wp2_with fail
 refine (mk3_fld W2).mono ?_
 rintro e W3 ⟨a3,b3,l3,rfl,hf,E⟩
 have H3:=H (bh (U H2) hf E)
 clear hf E H2
 go_wp2_with fail
 refine (mk4_fld W3).mono ?_
 rintro e W4 ⟨a4,b4,l4,rfl,hf,E⟩
 have H4:=H (bh (U H3) hf E)
 clear hf E H3
 go_wp2_with fail
 refine (mk5_fld W4).mono ?_
 rintro e W5 ⟨a5,b5,l5,rfl,hf,E⟩
 have H5:=H (bh (U H4) hf E)
 clear hf E H4
 go_wp2_with fail
 refine (mk6_fld W5).mono ?_
 rintro e W6 ⟨a6,b6,l6,rfl,hf,E⟩
 have H6:=H (bh (U H5) hf E)
 clear hf E H5
 go_wp2_with fail
 refine (mk7_fld W6).mono ?_
 rintro e W7 ⟨a7,b7,l7,rfl,hf,E⟩
 have H7:=H (bh (U H6) hf E)
 clear hf E H6
 go_wp2_with fail
 refine (mk8_fld W7).mono ?_
 rintro e W8 ⟨a8,b8,l8,rfl,hf,E⟩
 have H8:=H (bh (U H7) hf E)
 clear hf E H7
 go_wp2_with fail
 refine (mk13_fld W8).mono ?_
 rintro e W9 ⟨a9,b9,l9,rfl,hf,E⟩
 have H9:=H (bh (U H8) hf E)
 clear hf E H8
 have c0:=K (U H9).x 0 rfl
 have c1:=K (U H9).x 1 rfl
 have f0:=zd (U H9).x 0 (by decide)
 have f1:=zd (U H9).x 1 (by decide)
 have hs:=(U H9).s
 go_wp2_with fail
 clear c0 c1 f0 f1
 change bodyPost _ _ _ _ _ (shW w W9 0 [⟨a1,b1,l1⟩,⟨a2,b2,l2⟩,⟨a3,b3,l3⟩,⟨a4,b4,l4⟩,⟨a5,b5,l5⟩,⟨a6,b6,l6⟩,⟨a7,b7,l7⟩,⟨a8,b8,l8⟩,⟨a9,b9,l9⟩])
 obtain ⟨_,d0,d1⟩:=sh_end (k:=2) (c:=0) (U H9) rfl rfl (by simp)
 refine bodyPost_ret (v:=.agg #[I 0,.slice (some (Q W9.heap.size 0)) 9 9]) ?_ rfl (shp_fin (U H9) rfl rfl (by simp))
 change (shW w W9 0 [⟨a1,b1,l1⟩,⟨a2,b2,l2⟩,⟨a3,b3,l3⟩,⟨a4,b4,l4⟩,⟨a5,b5,l5⟩,⟨a6,b6,l6⟩,⟨a7,b7,l7⟩,⟨a8,b8,l8⟩,⟨a9,b9,l9⟩]).cell? _ = _ at d0 d1
 generalize shW w W9 0 [⟨a1,b1,l1⟩,⟨a2,b2,l2⟩,⟨a3,b3,l3⟩,⟨a4,b4,l4⟩,⟨a5,b5,l5⟩,⟨a6,b6,l6⟩,⟨a7,b7,l7⟩,⟨a8,b8,l8⟩,⟨a9,b9,l9⟩] = V9 at d0 d1 ⊢
 simp [results,Tryz.f68,go_sem,d0,d1]
theorem shape3_any (w:World):Calls Tryz.prog 68 #[I 3] w fun e w'=>bM 3 w e w':=by
 have H0:=H (sh_start w)
 go_enter Tryz.func68,Tryz.ntmps68
 go_wp2_with fail
 generalize (w.alloc (L #[I 0,.slice none 0 0] 110)) = W0 at H0 ⊢
 refine (mk9_fld W0).mono ?_
 rintro e W1 ⟨a1,b1,l1,rfl,hf,E⟩
 have H1:=H (bh (U H0) hf E)
 clear hf E H0
 go_wp2_with fail
 refine (mk10_fld W1).mono ?_
 rintro e W2 ⟨a2,b2,l2,rfl,hf,E⟩
 have H2:=H (bh (U H1) hf E)
 clear hf E H1
 go_wp2_with fail
 refine (mk11_fld W2).mono ?_
 rintro e W3 ⟨a3,b3,l3,rfl,hf,E⟩
 have H3:=H (bh (U H2) hf E)
 clear hf E H2
 go_wp2_with fail
 refine (mk12_fld W3).mono ?_
 rintro e W4 ⟨a4,b4,l4,rfl,hf,E⟩
 have H4:=H (bh (U H3) hf E)
 clear hf E H3
 have c0:=K (U H4).x 0 rfl
 have c1:=K (U H4).x 1 rfl
 have f0:=zd (U H4).x 0 (by decide)
 have f1:=zd (U H4).x 1 (by decide)
 have hs:=(U H4).s
 go_wp2_with fail
 clear c0 c1 f0 f1
 change bodyPost _ _ _ _ _ (shW w W4 0 [⟨a1,b1,l1⟩,⟨a2,b2,l2⟩,⟨a3,b3,l3⟩,⟨a4,b4,l4⟩])
 obtain ⟨_,d0,d1⟩:=sh_end (k:=3) (c:=0) (U H4) rfl rfl (by simp)
 refine bodyPost_ret (v:=.agg #[I 0,.slice (some (Q W4.heap.size 0)) 4 4]) ?_ rfl (shp_fin (U H4) rfl rfl (by simp))
 change (shW w W4 0 [⟨a1,b1,l1⟩,⟨a2,b2,l2⟩,⟨a3,b3,l3⟩,⟨a4,b4,l4⟩]).cell? _ = _ at d0 d1
 generalize shW w W4 0 [⟨a1,b1,l1⟩,⟨a2,b2,l2⟩,⟨a3,b3,l3⟩,⟨a4,b4,l4⟩] = V9 at d0 d1 ⊢
 simp [results,Tryz.f68,go_sem,d0,d1]
theorem ef (w:World):(Calls Tryz.prog 68 #[I 4] w fun e w'=>bM 4 w e w')∧(Calls Tryz.prog 68 #[I 5] w fun e w'=>bM 5 w e w')∧(Calls Tryz.prog 68 #[I 6] w fun e w'=>bM 6 w e w')∧(Calls Tryz.prog 68 #[I 7] w fun e w'=>bM 7 w e w')∧(Calls Tryz.prog 68 #[I 9] w fun e w'=>bM 9 w e w'):=by
 refine ⟨?_,?_,?_,?_,?_⟩
 all_goals
  have H0:=H (sh_start w)
  go_enter Tryz.func68,Tryz.ntmps68
  go_wp2_with fail
  generalize (w.alloc (L #[I 0,.slice none 0 0] 110)) = W0 at H0 ⊢
  refine (mk9_fld W0).mono ?_
  rintro e W1 ⟨a1,b1,l1,rfl,hf,E⟩
  have H1:=H (bh (U H0) hf E)
  clear hf E H0
  go_wp2_with fail
  refine (mk11_fld W1).mono ?_
  rintro e W2 ⟨a2,b2,l2,rfl,hf,E⟩
  have H2:=H (bh (U H1) hf E)
  clear hf E H1
  have c0:=K (U H2).x 0 rfl
  have c1:=K (U H2).x 1 rfl
  have f0:=zd (U H2).x 0 (by decide)
  have f1:=zd (U H2).x 1 (by decide)
  have hs:=(U H2).s
  go_wp2_with fail
  clear c0 c1 f0 f1
  change bodyPost _ _ _ _ _ (shW w W2 0 [⟨a1,b1,l1⟩,⟨a2,b2,l2⟩])
  obtain ⟨_,d0,d1⟩:=sh_end (k:=4) (c:=0) (U H2) rfl rfl (by simp)
  refine bodyPost_ret (v:=.agg #[I 0,.slice (some (Q W2.heap.size 0)) 2 2]) ?_ rfl (shp_fin (U H2) rfl rfl (by simp))
  change (shW w W2 0 [⟨a1,b1,l1⟩,⟨a2,b2,l2⟩]).cell? _ = _ at d0 d1
  generalize shW w W2 0 [⟨a1,b1,l1⟩,⟨a2,b2,l2⟩] = V9 at d0 d1 ⊢
  simp [results,Tryz.f68,go_sem,d0,d1]
theorem shape8_any (w:World):Calls Tryz.prog 68 #[I 8] w fun e w'=>bM 8 w e w':=by
 have H0:=H (sh_start w)
 go_enter Tryz.func68,Tryz.ntmps68
 go_wp2_with fail
 generalize (w.alloc (L #[I 0,.slice none 0 0] 110)) = W0 at H0 ⊢
 refine (mk11_fld W0).mono ?_
 rintro e W1 ⟨a1,b1,l1,rfl,hf,E⟩
 have H1:=H (bh (U H0) hf E)
 clear hf E H0
 have c0:=K (U H1).x 0 rfl
 have c1:=K (U H1).x 1 rfl
 have f0:=zd (U H1).x 0 (by decide)
 have f1:=zd (U H1).x 1 (by decide)
 have hs:=(U H1).s
 go_wp2_with fail
 clear c0 c1 f0 f1
 change bodyPost _ _ _ _ _ (shW w W1 0 [⟨a1,b1,l1⟩])
 obtain ⟨_,d0,d1⟩:=sh_end (k:=8) (c:=0) (U H1) rfl rfl (by simp)
 refine bodyPost_ret (v:=.agg #[I 0,.slice (some (Q W1.heap.size 0)) 1 1]) ?_ rfl (shp_fin (U H1) rfl rfl (by simp))
 change (shW w W1 0 [⟨a1,b1,l1⟩]).cell? _ = _ at d0 d1
 generalize shW w W1 0 [⟨a1,b1,l1⟩] = V9 at d0 d1 ⊢
 simp [results,Tryz.f68,go_sem,d0,d1]
abbrev shape4_any (w:World):=(ef w).1
abbrev shape5_any (w:World):=(ef w).2.1
abbrev shape6_any (w:World):=(ef w).2.2.1
abbrev shape7_any (w:World):=(ef w).2.2.2.1
abbrev shape9_any (w:World):=(ef w).2.2.2.2
theorem shapeN_any (k:Int) (w:World) (h:¬ (1 ≤ k∧k ≤ 9)):Calls Tryz.prog 68 #[I k] w fun e w'=>bM k w e w':=by
 have HE:Hid (∀ w',yp w w'→bM k w (.returned (.agg #[I 0,.slice none 0 0])) w'):=fun w' E=>by
  have N:shC k = 0:=if_neg (by omega)
  have Y:shF k = []:=by unfold shF; rw [if_neg (by omega),if_neg (by omega),if_neg (by omega),if_neg (by omega),if_neg (by omega)]
  unfold bM
  rw [N,Y]
  exact ⟨_,[],rfl,⟨none,0,rfl,by simp,fun h=>absurd rfl h⟩,trivial,E⟩
 have e1:(k == 1) = false:=xe.2 (by omega)
 have e2:(k == 2) = false:=xe.2 (by omega)
 have e3:(k == 3) = false:=xe.2 (by omega)
 have e4:(k == 4) = false:=xe.2 (by omega)
 have e5:(k == 5) = false:=xe.2 (by omega)
 have e6:(k == 6) = false:=xe.2 (by omega)
 have e7:(k == 7) = false:=xe.2 (by omega)
 have e8:(k == 8) = false:=xe.2 (by omega)
 have e9:(k == 9) = false:=xe.2 (by omega)
 clear h
 go_enter Tryz.func68,Tryz.ntmps68
 go_wp2_with fail
 go_returns
 exact U HE _ (by go_grown)
theorem shape_any (k:Int) (w:World):Calls Tryz.prog 68 #[I k] w fun e w'=>bM k w e w':=by
 by_cases h:1 ≤ k∧k ≤ 9
 ·rcases (show k = 1 ∨ k = 2 ∨ k = 3 ∨ k = 4 ∨ k = 5 ∨ k = 6 ∨ k = 7 ∨ k = 8 ∨ k = 9 by omega) with rfl | rfl | rfl | rfl | rfl | rfl | rfl | rfl | rfl
  ·exact shape1_any w
  ·exact shape2_any w
  ·exact shape3_any w
  ·exact shape4_any w
  ·exact shape5_any w
  ·exact shape6_any w
  ·exact shape7_any w
  ·exact shape8_any w
  ·exact shape9_any w
 ·exact shapeN_any k w h
theorem plc1_any (g:Nat) (w:World):Calls Tryz.prog 155 #[J g 0] w fun e w'=>e = .returned (J g 1)∧w' = w:=by
 go_enter Tryz.func155,Tryz.ntmps155
 go_wp2
 go_ret
 exact ⟨rfl,rfl⟩
theorem plc2_any (g:Nat) (w:World):Calls Tryz.prog 146 #[J g 0] w fun e w'=>e = .returned (J g 2)∧w' = w:=by
 go_enter Tryz.func146,Tryz.ntmps146
 go_wp2
 go_ret
 exact ⟨rfl,rfl⟩
theorem plc3_any (g:Nat) (w:World):Calls Tryz.prog 147 #[J g 0] w fun e w'=>e = .returned (J g 3)∧w' = w:=by
 go_enter Tryz.func147,Tryz.ntmps147
 go_wp2
 go_ret
 exact ⟨rfl,rfl⟩
theorem plc4_any (g:Nat) (w:World):Calls Tryz.prog 148 #[J g 0] w fun e w'=>e = .returned (J g 4)∧w' = w:=by
 go_enter Tryz.func148,Tryz.ntmps148
 go_wp2
 go_ret
 exact ⟨rfl,rfl⟩
theorem plc5_any (g:Nat) (w:World):Calls Tryz.prog 149 #[J g 0] w fun e w'=>e = .returned (J g 5)∧w' = w:=by
 go_enter Tryz.func149,Tryz.ntmps149
 go_wp2
 go_ret
 exact ⟨rfl,rfl⟩
theorem plc6_any (g:Nat) (w:World):Calls Tryz.prog 156 #[J g 0] w fun e w'=>e = .returned (J g 6)∧w' = w:=by
 go_enter Tryz.func156,Tryz.ntmps156
 go_wp2
 go_ret
 exact ⟨rfl,rfl⟩
theorem plc9_any (g:Nat) (w:World):Calls Tryz.prog 154 #[J g 0] w fun e w'=>e = .returned (J g 9)∧w' = w:=by
 go_enter Tryz.func154,Tryz.ntmps154
 go_wp2
 go_ret
 exact ⟨rfl,rfl⟩
theorem plc10_any (g:Nat) (w:World):Calls Tryz.prog 158 #[J g 0] w fun e w'=>e = .returned (J g 10)∧w' = w:=by
 go_enter Tryz.func158,Tryz.ntmps158
 go_wp2
 go_ret
 exact ⟨rfl,rfl⟩
theorem plc11_any (g:Nat) (w:World):Calls Tryz.prog 159 #[J g 0] w fun e w'=>e = .returned (J g 11)∧w' = w:=by
 go_enter Tryz.func159,Tryz.ntmps159
 go_wp2
 go_ret
 exact ⟨rfl,rfl⟩
theorem plc12_any (g:Nat) (w:World):Calls Tryz.prog 160 #[J g 0] w fun e w'=>e = .returned (J g 12)∧w' = w:=by
 go_enter Tryz.func160,Tryz.ntmps160
 go_wp2
 go_ret
 exact ⟨rfl,rfl⟩
theorem plc13_any (g:Nat) (w:World):Calls Tryz.prog 157 #[J g 0] w fun e w'=>e = .returned (J g 13)∧w' = w:=by
 go_enter Tryz.func157,Tryz.ntmps157
 go_wp2
 go_ret
 exact ⟨rfl,rfl⟩
def plcO (o:Nat):Bool:=(1 ≤ o && o ≤ 6) || (9 ≤ o && o ≤ 13)
theorem plc_any (o g:Nat) (w:World) (h:plcO o = true):Calls Tryz.prog (plcV o) #[J g 0] w fun e w'=>e = .returned (J g o)∧w' = w:=by
 rcases (show o = 1 ∨ o = 2 ∨ o = 3 ∨ o = 4 ∨ o = 5 ∨ o = 6 ∨ o = 9 ∨ o = 10 ∨ o = 11 ∨ o = 12 ∨ o = 13 by simp [plcO] at h; omega) with rfl | rfl | rfl | rfl | rfl | rfl | rfl | rfl | rfl | rfl | rfl
 ·exact plc1_any g w
 ·exact plc2_any g w
 ·exact plc3_any g w
 ·exact plc4_any g w
 ·exact plc5_any g w
 ·exact plc6_any g w
 ·exact plc9_any g w
 ·exact plc10_any g w
 ·exact plc11_any g w
 ·exact plc12_any g w
 ·exact plc13_any g w
structure Rdr (B:Nat) (w:World) (v:Value) (k:Int):Prop where
 bytes:w.cell? ⟨B,0,none⟩ = some v
 place:w.cell? ⟨B,1,none⟩ = some (.int .i64 k)
 free:w.frozen? ⟨B,1,none⟩ = false
theorem Rdr.drewN {B:Nat} {w:World} {v:Value} {k:Int} (h:Rdr B w v k) (n:Nat):Rdr B (w.drewN n) v k:=⟨h.1,h.2,h.3⟩
theorem Rdr.step {B:Nat} {w:World} {v:Value} {k:Int} (h:Rdr B w v k) (m:Int):Rdr B (w.setCell ⟨B,1,none⟩ (I m)) v m :=
 ⟨by rw [yM _ _ _ _ (bY (by omega))]; exact h.1,yN _ _ _ h.2,by rw [World.frozen?_setCell]; exact h.3⟩
def bI (c k:Int):List PanicEntry:=[{ v:=.iface 224 (.agg #[I c,I k]),recovered:=false }]
theorem cH (B:Nat) (c k:Int) (v:Value) (w:World) (hr:Rdr B w v k) :
  Calls Tryz.prog 164 #[.pointer (some ⟨B,0,none⟩),I c] w fun e w'=>e = .panicked (bI c k)∧w' = w:=by
 have Y:=hr.2
 clear hr
 go_enter Tryz.func164,Tryz.ntmps164
 go_wp2
 exact ⟨rfl,rfl,rfl⟩
theorem take_end (B:Nat) (c k:Int) (a:Option Addr) (len cap:Nat) (w:World) (hr:Rdr B w (.slice a len cap) k) (h0:0 ≤ k) (N:k ≤ len) (hl:len ≤ 1073741824) (hc:(len:Int) - k < c) (jn:c ≤ 1073741824) :
  Calls Tryz.prog 163 #[.pointer (some ⟨B,0,none⟩),I c] w fun e w'=>e = .panicked (bI 3 k)∧∃ q,w' = w.drewN q:=by
 have HR:=H hr
 obtain ⟨c1,c2,c3⟩:=hr
 go_enter Tryz.func163,Tryz.ntmps163
 go_wp2_with fail
 go_quiet (fail)
 go_wp2_with fail
 refine (cH B 3 k _ _ ((U HR).drewN _)).mono ?_
 rintro e w1 ⟨rfl,rfl⟩
 go_wp2_with fail
 exact ⟨rfl,rfl,_,rfl⟩
theorem take_ok (B:Nat) (c k:Nat) (b off len cap:Nat) (w:World) (hr:Rdr B w (.slice (some ⟨b,off,none⟩) len cap) k) (N:k + c ≤ len) (hl:len ≤ 1073741824) (uq:len ≤ cap) (jn:1 ≤ c) :
  Calls Tryz.prog 163 #[.pointer (some ⟨B,0,none⟩),I c] w fun e w'=>e = .returned (.slice (some ⟨b,off + k,none⟩) c (cap - k))∧∃ q,w' = (w.setCell ⟨B,1,none⟩ (I (k + c:Nat))).drewN q:=by
 have HR:=H hr
 obtain ⟨c1,c2,c3⟩:=hr
 have pp:(k:Int) + c ≤ len:=by omega
 have oE:¬ ((len:Int) - k < c):=by omega
 have h3':(k:Int) + c ≤ cap:=by omega
 have xD:¬ (cap = k):=by omega
 go_enter Tryz.func163,Tryz.ntmps163
 go_wp2_with fail
 go_quiet (fail)
 go_wp2_with fail
 go_quiet (fail)
 go_wp2_with fail
 go_ret
 refine ⟨by simp,_,by congr 3⟩
theorem check_ok (B:Nat) (k:Int) (a:Option Addr) (len cap:Nat) (w:World) (hr:Rdr B w (.slice a len cap) k) (h0:0 ≤ k) (N:k ≤ len) (hl:len ≤ 65536) :
  Calls Tryz.prog 193 #[.pointer (some ⟨B,0,none⟩)] w fun e w'=>e = .returned (.tuple #[])∧∃ q,w' = w.drewN q:=by
 obtain ⟨c1,c2,c3⟩:=hr
 have px:(len:Int) ≤ 65536:=by omega
 have hd:decide (k < 0) = false:=by simpa using h0
 go_enter Tryz.func193,Tryz.ntmps193
 go_wp2_with fail
 go_quiet (fail)
 go_wp2_with fail
 go_end0
 exact ⟨rfl,_,rfl⟩
theorem check_long (B:Nat) (k:Int) (a:Option Addr) (len cap:Nat) (w:World) (hr:Rdr B w (.slice a len cap) k) (hl:65536 < len) :
  Calls Tryz.prog 193 #[.pointer (some ⟨B,0,none⟩)] w fun e w'=>e = .panicked (bI 2 k)∧∃ q,w' = w.drewN q:=by
 have HR:=H hr
 obtain ⟨c1,c2,c3⟩:=hr
 have px:(65536:Int) < len:=by omega
 go_enter Tryz.func193,Tryz.ntmps193
 go_wp2_with fail
 refine (cH B 2 k _ _ (U HR)).mono ?_
 rintro e w1 ⟨rfl,rfl⟩
 go_wp2_with fail
 exact ⟨rfl,rfl,0,rfl⟩
theorem check_out (B:Nat) (k:Int) (a:Option Addr) (len cap:Nat) (w:World) (hr:Rdr B w (.slice a len cap) k) (h:k < 0 ∨ (len:Int) < k) (hl:len ≤ 65536) :
  Calls Tryz.prog 193 #[.pointer (some ⟨B,0,none⟩)] w fun e w'=>e = .panicked (bI 5 k)∧∃ q,w' = w.drewN q:=by
 have HR:=H hr
 obtain ⟨c1,c2,c3⟩:=hr
 have px:(len:Int) ≤ 65536:=by omega
 rcases (show k < 0 ∨ (0 ≤ k∧(len:Int) < k) by omega) with h0 | ⟨h0,N⟩
 ·have hd:decide (k < 0) = true:=by simpa using h0
  clear h
  go_enter Tryz.func193,Tryz.ntmps193
  go_wp2_with fail
  go_quiet (fail)
  go_wp2_with fail
  refine (cH B 5 k _ _ ((U HR).drewN _)).mono ?_
  rintro e w1 ⟨rfl,rfl⟩
  go_wp2_with fail
  exact ⟨rfl,rfl,_,rfl⟩
 ·have hd:decide (k < 0) = false:=by simpa using h0
  clear h
  go_enter Tryz.func193,Tryz.ntmps193
  go_wp2_with fail
  go_quiet (fail)
  go_wp2_with fail
  refine (cH B 5 k _ _ ((U HR).drewN _)).mono ?_
  rintro e w1 ⟨rfl,rfl⟩
  go_wp2_with fail
  exact ⟨rfl,rfl,_,rfl⟩
end Go.Proofs.YtnphbkgfjanmgaaGreatDoor
