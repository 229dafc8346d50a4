/-
  Events as values without a float, by the program: proved by walking the function.
-/
import Derived.Test.YtbakanofkghmiaaGreatUj10
set_option linter.unusedVariables false
set_option maxHeartbeats 6400000
set_option maxRecDepth 100000
namespace Go.Proofs.YtbakanofkghmiaaGreat
open Go.RowKit
theorem dS (w:World) (cs:List Value) (t:TypeId):(w.alloc (Obj.cells cs.toArray t)).rangeAt w.heap.size 0 cs:=fun j u h=>by
 rw [cell_of_row _ w.heap.size (0 + j) cs.toArray t (0,0) (heap_alloc_new w _)]
 simpa using h
theorem dM (w:World) (o:Obj):(w.alloc o).heap.size = w.heap.size + 1:=by simp
theorem there_madeV (w:World) (cs:List Value) (t:TypeId):(w.alloc (Obj.cells cs.toArray t)).there w.heap.size 0 cs.length:=cC (heap_alloc_new w _) (by simp)
theorem valueOf_any (e:Ev) (w:World) :
  Calls Tryz.prog 138 #[evV e] w fun x w'=>x = yl (vlV e)∧ym w w':=by
 obtain ⟨uv,⟨k,s,t,l,q,i,p,g⟩,id,xM,qty,xT,xK⟩:=e
 unfold evV vlV
 have hsf:=sfl
 simp only
 generalize hfb:fbit p = fp
 have HFB:=Y (fun W=>hfb ▸ floatBits_any p W)
 clear hfb
 have xz:(w.alloc (N (yt uv k s t l q i p g id xM qty xT xK).toArray 46)).heap.size = w.heap.size + 1:=dM _ _
 have xZ:((w.alloc (N (yt uv k s t l q i p g id xM qty xT xK).toArray 46)).alloc (N #[H 0,H 0,H 0,H 0,H 0,H 0,H 0,H 0,H 0,H 0,H 0,H 0,.int .u64 0,yj ⟨#[]⟩] 187)).heap.size = w.heap.size + 2:=by rw [dM,xz]
 have jr:(((w.alloc (N (yt uv k s t l q i p g id xM qty xT xK).toArray 46)).alloc (N #[H 0,H 0,H 0,H 0,H 0,H 0,H 0,H 0,H 0,H 0,H 0,H 0,.int .u64 0,yj ⟨#[]⟩] 187)).alloc (N (yv k s t l q i p g).toArray 43)).heap.size = w.heap.size + 3:=by rw [dM,xZ]
 have b1:Below (w.heap.size + 1) (w.alloc (N (yt uv k s t l q i p g id xM qty xT xK).toArray 46)) (((w.alloc (N (yt uv k s t l q i p g id xM qty xT xK).toArray 46)).alloc (N #[H 0,H 0,H 0,H 0,H 0,H 0,H 0,H 0,H 0,H 0,H 0,H 0,.int .u64 0,yj ⟨#[]⟩] 187)).alloc (N (yv k s t l q i p g).toArray 43)):=(((Below.refl _ _).alloc (by rw [xz]; omega) _).alloc (by rw [xZ]; omega) _)
 have b2:Below (w.heap.size + 2) ((w.alloc (N (yt uv k s t l q i p g id xM qty xT xK).toArray 46)).alloc (N #[H 0,H 0,H 0,H 0,H 0,H 0,H 0,H 0,H 0,H 0,H 0,H 0,.int .u64 0,yj ⟨#[]⟩] 187)) (((w.alloc (N (yt uv k s t l q i p g id xM qty xT xK).toArray 46)).alloc (N #[H 0,H 0,H 0,H 0,H 0,H 0,H 0,H 0,H 0,H 0,H 0,H 0,.int .u64 0,yj ⟨#[]⟩] 187)).alloc (N (yv k s t l q i p g).toArray 43)):=((Below.refl _ _).alloc (by rw [xZ]; omega) _)
 have r1:=zb (dS w (yt uv k s t l q i p g id xM qty xT xK) 46) b1 (by omega)
 have t2:=there_madeV (w.alloc (N (yt uv k s t l q i p g id xM qty xT xK).toArray 46)) [H 0,H 0,H 0,H 0,H 0,H 0,H 0,H 0,H 0,H 0,H 0,H 0,.int .u64 0,yj ⟨#[]⟩] 187
 have r3:=dS ((w.alloc (N (yt uv k s t l q i p g id xM qty xT xK).toArray 46)).alloc (N #[H 0,H 0,H 0,H 0,H 0,H 0,H 0,H 0,H 0,H 0,H 0,H 0,.int .u64 0,yj ⟨#[]⟩] 187)) (yv k s t l q i p g) 43
 rw [xz] at t2
 rw [xZ] at r3
 have t2':=ze t2 b2 (by omega)
 have xP:Hid (ym w (((w.alloc (N (yt uv k s t l q i p g id xM qty xT xK).toArray 46)).alloc (N #[H 0,H 0,H 0,H 0,H 0,H 0,H 0,H 0,H 0,H 0,H 0,H 0,.int .u64 0,yj ⟨#[]⟩] 187)).alloc (N (yv k s t l q i p g).toArray 43))):=((eB _ _).alloc (by rw [xz]; omega) _).alloc (by rw [xZ]; omega) _
 have HX:Hid (_∧_∧_):=⟨r1,t2',r3⟩
 clear r1 t2 t2' r3 b1 b2 xz xZ jr
 go_enter Tryz.func138,Tryz.ntmps138
 go_wp2_with fail
 generalize (((w.alloc (N (yt uv k s t l q i p g id xM qty xT xK).toArray 46)).alloc (N #[H 0,H 0,H 0,H 0,H 0,H 0,H 0,H 0,H 0,H 0,H 0,H 0,.int .u64 0,yj ⟨#[]⟩] 187)).alloc (N (yv k s t l q i p g).toArray 43)) = WW at xP HX ⊢
 obtain ⟨jB,js,hr3⟩:=U HX
 have x0:=jB 0 _ rfl
 have x1:=jB 1 _ rfl
 have x2:=jB 2 _ rfl
 have x3:=jB 3 _ rfl
 have x4:=jB 4 _ rfl
 have x5:=jB 5 _ rfl
 have x6:=jB 6 _ rfl
 have x7:=jB 7 _ rfl
 have x8:=jB 8 _ rfl
 have x9:=jB 9 _ rfl
 have x10:=jB 10 _ rfl
 have x11:=jB 11 _ rfl
 have x12:=jB 12 _ rfl
 have x13:=jB 13 _ rfl
 have y0:=hr3 0 _ rfl
 have y1:=hr3 1 _ rfl
 have y2:=hr3 2 _ rfl
 have y3:=hr3 3 _ rfl
 have y4:=hr3 4 _ rfl
 have y5:=hr3 5 _ rfl
 have y6:=hr3 6 _ rfl
 have y7:=hr3 7 _ rfl
 simp only [Nat.zero_add] at x0 x1 x2 x3 x4 x5 x6 x7 x8 x9 x10 x11 x12 x13 y0 y1 y2 y3 y4 y5 y6 y7
 obtain ⟨v0,z0,f0⟩:=zH js 0 (by decide)
 obtain ⟨v1,z1,f1⟩:=zH js 1 (by decide)
 obtain ⟨v2,z2,f2⟩:=zH js 2 (by decide)
 obtain ⟨v3,z3,f3⟩:=zH js 3 (by decide)
 obtain ⟨v4,z4,f4⟩:=zH js 4 (by decide)
 obtain ⟨v5,z5,f5⟩:=zH js 5 (by decide)
 obtain ⟨v6,z6,f6⟩:=zH js 6 (by decide)
 obtain ⟨v7,z7,f7⟩:=zH js 7 (by decide)
 obtain ⟨v8,z8,f8⟩:=zH js 8 (by decide)
 obtain ⟨v9,z9,f9⟩:=zH js 9 (by decide)
 obtain ⟨v10,z10,f10⟩:=zH js 10 (by decide)
 obtain ⟨v11,z11,f11⟩:=zH js 11 (by decide)
 obtain ⟨v12,z12,f12⟩:=zH js 12 (by decide)
 obtain ⟨v13,z13,f13⟩:=zH js 13 (by decide)
 simp only [Nat.zero_add] at z0 f0 z1 f1 z2 f2 z3 f3 z4 f4 z5 f5 z6 f6 z7 f7 z8 f8 z9 f9 z10 f10 z11 f11 z12 f12 z13 f13
 have HT:=Y js
 clear jB js hr3 HX
 refine wp_region_still_tail 30 (by kernel_rfl) (by kernel_rfl) ?_
 simp only [yR,List.take_zero,yS,List.drop_zero]
 repeat still_step
 still_call (U HFB _)
 repeat still_step
 refine wpStill_nil ?_
 go_wp2_with fail
 change bodyPost _ _ _ _ _ (WW.setCells (w.heap.size + 1) 0 [H uv,H id,H xM,H qty,H xT,H xK,H k,H s,H t,H l,H q,H i,.int .u64 fp,yj g]).drew
 have jF:=Y (yV WW (w.heap.size + 1) 0 [H uv,H id,H xM,H qty,H xT,H xK,H k,H s,H t,H l,H q,H i,.int .u64 fp,yj g] (fun j K=>U HT j K))
 have uy:=Y (zm (w.heap.size + 1) (by omega) [H uv,H id,H xM,H qty,H xT,H xK,H k,H s,H t,H l,H q,H i,.int .u64 fp,yj g] 0 WW (U xP))
 generalize WW.setCells (w.heap.size + 1) 0 [H uv,H id,H xM,H qty,H xT,H xK,H k,H s,H t,H l,H q,H i,.int .u64 fp,yj g] = WE at jF uy ⊢
 obtain ⟨d0,d1,d2,d3,d4,d5,d6,d7,d8,d9,d10,d11,d12,d13⟩:=yD (U jF)
 try simp only [Exit.inBlock,Exit.then]
 refine bodyPost_ret (by simp [results,Tryz.results138,go_sem,d0,d1,d2,d3,d4,d5,d6,d7,d8,d9,d10,d11,d12,d13]; try rfl) rfl ?_
 exact ⟨rfl,(U uy).drew⟩
def cy (b:Nat):List Value:=[.func (.func 122) #[I b 0] #[],.func (.func 123) #[I b 0] #[],.func (.func 124) #[I b 0] #[]]
def cQ (b:Nat):List Value:=[.func (.func 126) #[I b 0] #[],.func (.func 127) #[I b 0] #[],.func (.func 128) #[I b 0] #[]]
abbrev Tb (w:World) (b:Nat) (q:List Od):Prop:=aG 176 true w b 1 q
abbrev Ts (w:World) (b:Nat) (q:List Od):Prop:=aG 179 false w b 2 q
structure RW9 (W0:World) (BV:Value) (q1 q2:List Od) (x:List Bool) (v33 v34 v35 v36 v5 v6:Value) (b1 b2 p5 p6:Nat) (w:World):Prop where
 bel:Below W0.heap.size W0 w
 c33:x[0]? = some true→v33 = BV
 c35:x[2]? = some true→v35 = BV
 c34:x[1]? = some true→v34 = bd b1∧Tb w b1 q1
 c36:x[3]? = some true→v36 = bh b2∧Ts w b2 q2
 c5:x[4]? = some true→v5 = .pointer (some ⟨p5,0,none⟩)∧p5 < w.heap.size∧W0.heap.size ≤ p5∧w.there p5 0 3
 c6:x[5]? = some true→v6 = .pointer (some ⟨p6,0,none⟩)∧p6 < w.heap.size∧W0.heap.size ≤ p6∧w.there p6 0 3
 n15:x[1]? = some true→x[4]? = some true→b1 ≠ p5
 n16:x[1]? = some true→x[5]? = some true→b1 ≠ p6
 n25:x[3]? = some true→x[4]? = some true→b2 ≠ p5
 n26:x[3]? = some true→x[5]? = some true→b2 ≠ p6
 n56:x[4]? = some true→x[5]? = some true→p5 ≠ p6
 s5:x[6]? = some true→(x[1]? = some true∧x[4]? = some true)∧w.rangeAt p5 0 (cy b1)
 s6:x[7]? = some true→(x[3]? = some true∧x[5]? = some true)∧w.rangeAt p6 0 (cQ b2)
section
variable {W0 w w':World} {BV:Value} {q1 q2:List Od} {x:List Bool} {v33 v34 v35 v36 v5 v6:Value} {b1 b2 p5 p6:Nat}
theorem rw9_grow (h:RW9 W0 BV q1 q2 x v33 v34 v35 v36 v5 v6 b1 b2 p5 p6 w) (O:ym w w'):RW9 W0 BV q1 q2 x v33 v34 v35 v36 v5 v6 b1 b2 p5 p6 w' where
 bel:=h.bel.trans (O.mono h.bel.size)
 c33:=h.c33
 c35:=h.c35
 c34:=fun hx=>⟨(h.c34 hx).1,zr (h.c34 hx).2 (O.block _ (zJ (h.c34 hx).2))⟩
 c36:=fun hx=>⟨(h.c36 hx).1,zr (h.c36 hx).2 (O.block _ (zJ (h.c36 hx).2))⟩
 c5:=fun hx=>⟨(h.c5 hx).1,yH (h.c5 hx).2.1 O.size,(h.c5 hx).2.2.1,ze (h.c5 hx).2.2.2 O (h.c5 hx).2.1⟩
 c6:=fun hx=>⟨(h.c6 hx).1,yH (h.c6 hx).2.1 O.size,(h.c6 hx).2.2.1,ze (h.c6 hx).2.2.2 O (h.c6 hx).2.1⟩
 n15:=h.n15
 n16:=h.n16
 n25:=h.n25
 n26:=h.n26
 n56:=h.n56
 s5:=fun hx=>⟨(h.s5 hx).1,zb (h.s5 hx).2 O (h.c5 (h.s5 hx).1.2).2.1⟩
 s6:=fun hx=>⟨(h.s6 hx).1,zb (h.s6 hx).2 O (h.c6 (h.s6 hx).1.2).2.1⟩
theorem gse {x:List Bool} {i j:Nat} (h:i ≠ j):(x.set i true)[j]? = x[j]?:=yU h
theorem rw9_0 (h:RW9 W0 BV q1 q2 x v33 v34 v35 v36 v5 v6 b1 b2 p5 p6 w):RW9 W0 BV q1 q2 (x.set 0 true) BV v34 v35 v36 v5 v6 b1 b2 p5 p6 w:=by
 constructor <;> try simp only [gse (show 0 ≠ 1 by decide),gse (show 0 ≠ 2 by decide),gse (show 0 ≠ 3 by decide),gse (show 0 ≠ 4 by decide),gse (show 0 ≠ 5 by decide),gse (show 0 ≠ 6 by decide),gse (show 0 ≠ 7 by decide)]
 ·exact h.bel
 ·exact fun _=>by first | rfl | trivial
 ·exact h.c35
 ·exact h.c34
 ·exact h.c36
 ·exact h.c5
 ·exact h.c6
 ·exact h.n15
 ·exact h.n16
 ·exact h.n25
 ·exact h.n26
 ·exact h.n56
 ·exact h.s5
 ·exact h.s6
theorem rw9_2 (h:RW9 W0 BV q1 q2 x v33 v34 v35 v36 v5 v6 b1 b2 p5 p6 w):RW9 W0 BV q1 q2 (x.set 2 true) v33 v34 BV v36 v5 v6 b1 b2 p5 p6 w:=by
 constructor <;> try simp only [gse (show 2 ≠ 0 by decide),gse (show 2 ≠ 1 by decide),gse (show 2 ≠ 3 by decide),gse (show 2 ≠ 4 by decide),gse (show 2 ≠ 5 by decide),gse (show 2 ≠ 6 by decide),gse (show 2 ≠ 7 by decide)]
 ·exact h.bel
 ·exact h.c33
 ·exact fun _=>by first | rfl | trivial
 ·exact h.c34
 ·exact h.c36
 ·exact h.c5
 ·exact h.c6
 ·exact h.n15
 ·exact h.n16
 ·exact h.n25
 ·exact h.n26
 ·exact h.n56
 ·exact h.s5
 ·exact h.s6
theorem rw9_1 (h:RW9 W0 BV q1 q2 x v33 v34 v35 v36 v5 v6 b1 b2 p5 p6 w) (h6:x[6]? ≠ some true) {b:Nat} (O:ym w w') (jb:w.heap.size ≤ b) (ht:Tb w' b q1) :
  RW9 W0 BV q1 q2 (x.set 1 true) v33 (bd b) v35 v36 v5 v6 b b2 p5 p6 w':=by
 have g:=rw9_grow h O
 constructor <;> try simp only [gse (show 1 ≠ 0 by decide),gse (show 1 ≠ 2 by decide),gse (show 1 ≠ 3 by decide),gse (show 1 ≠ 4 by decide),gse (show 1 ≠ 5 by decide),gse (show 1 ≠ 6 by decide),gse (show 1 ≠ 7 by decide)]
 ·exact g.bel
 ·exact g.c33
 ·exact g.c35
 ·exact fun _=>⟨by first | rfl | trivial,ht⟩
 ·exact g.c36
 ·exact g.c5
 ·exact g.c6
 ·exact fun _ h4=>by have:=(h.c5 h4).2.1; omega
 ·exact fun _ h5=>by have:=(h.c6 h5).2.1; omega
 ·exact g.n25
 ·exact g.n26
 ·exact g.n56
 ·exact fun hx=>absurd hx h6
 ·exact g.s6
theorem rw9_3 (h:RW9 W0 BV q1 q2 x v33 v34 v35 v36 v5 v6 b1 b2 p5 p6 w) (h7:x[7]? ≠ some true) {b:Nat} (O:ym w w') (jb:w.heap.size ≤ b) (ht:Ts w' b q2) :
  RW9 W0 BV q1 q2 (x.set 3 true) v33 v34 v35 (bh b) v5 v6 b1 b p5 p6 w':=by
 have g:=rw9_grow h O
 constructor <;> try simp only [gse (show 3 ≠ 0 by decide),gse (show 3 ≠ 1 by decide),gse (show 3 ≠ 2 by decide),gse (show 3 ≠ 4 by decide),gse (show 3 ≠ 5 by decide),gse (show 3 ≠ 6 by decide),gse (show 3 ≠ 7 by decide)]
 ·exact g.bel
 ·exact g.c33
 ·exact g.c35
 ·exact g.c34
 ·exact fun _=>⟨by first | rfl | trivial,ht⟩
 ·exact g.c5
 ·exact g.c6
 ·exact g.n15
 ·exact g.n16
 ·exact fun _ h4=>by have:=(h.c5 h4).2.1; omega
 ·exact fun _ h5=>by have:=(h.c6 h5).2.1; omega
 ·exact g.n56
 ·exact g.s5
 ·exact fun hx=>absurd hx h7
theorem zt (w:World) (cs:List Value) (t:TypeId):(w.alloc (Obj.cells cs.toArray t)).there w.heap.size 0 cs.length:=cC (heap_alloc_new w _) (by simp)
theorem rw9_4 (h:RW9 W0 BV q1 q2 x v33 v34 v35 v36 v5 v6 b1 b2 p5 p6 w) (h6:x[6]? ≠ some true) (t:TypeId) :
  RW9 W0 BV q1 q2 (x.set 4 true) v33 v34 v35 v36 (yn w 0) v6 b1 b2 w.heap.size p6 (w.alloc (N #[.nilFunc,.nilFunc,.nilFunc] t)):=by
 have g:=rw9_grow h ((Below.refl _ _).alloc hb (N #[.nilFunc,.nilFunc,.nilFunc] t))
 constructor <;> try simp only [gse (show 4 ≠ 0 by decide),gse (show 4 ≠ 1 by decide),gse (show 4 ≠ 2 by decide),gse (show 4 ≠ 3 by decide),gse (show 4 ≠ 5 by decide),gse (show 4 ≠ 6 by decide),gse (show 4 ≠ 7 by decide)]
 ·exact g.bel
 ·exact g.c33
 ·exact g.c35
 ·exact g.c34
 ·exact g.c36
 ·exact fun _=>⟨by first | rfl | trivial,by rw [zf]; omega,h.bel.size,zt w [.nilFunc,.nilFunc,.nilFunc] t⟩
 ·exact g.c6
 ·exact fun G _=>by have:=zJ (h.c34 G).2; omega
 ·exact g.n16
 ·exact fun h3 _=>by have:=zJ (h.c36 h3).2; omega
 ·exact g.n26
 ·exact fun _ h5=>by have:=(h.c6 h5).2.1; omega
 ·exact fun hx=>absurd hx h6
 ·exact g.s6
theorem rw9_5 (h:RW9 W0 BV q1 q2 x v33 v34 v35 v36 v5 v6 b1 b2 p5 p6 w) (h7:x[7]? ≠ some true) (t:TypeId) :
  RW9 W0 BV q1 q2 (x.set 5 true) v33 v34 v35 v36 v5 (yn w 0) b1 b2 p5 w.heap.size (w.alloc (N #[.nilFunc,.nilFunc,.nilFunc] t)):=by
 have g:=rw9_grow h ((Below.refl _ _).alloc hb (N #[.nilFunc,.nilFunc,.nilFunc] t))
 constructor <;> try simp only [gse (show 5 ≠ 0 by decide),gse (show 5 ≠ 1 by decide),gse (show 5 ≠ 2 by decide),gse (show 5 ≠ 3 by decide),gse (show 5 ≠ 4 by decide),gse (show 5 ≠ 6 by decide),gse (show 5 ≠ 7 by decide)]
 ·exact g.bel
 ·exact g.c33
 ·exact g.c35
 ·exact g.c34
 ·exact g.c36
 ·exact g.c5
 ·exact fun _=>⟨by first | rfl | trivial,by rw [zf]; omega,h.bel.size,zt w [.nilFunc,.nilFunc,.nilFunc] t⟩
 ·exact g.n15
 ·exact fun G _=>by have:=zJ (h.c34 G).2; omega
 ·exact g.n25
 ·exact fun h3 _=>by have:=zJ (h.c36 h3).2; omega
 ·exact fun h4 _=>by have:=(h.c5 h4).2.1; omega
 ·exact g.s5
 ·exact fun hx=>absurd hx h7
theorem dl {p:Nat} {F0 F1 F2:Value} {k:Nat} (hk:k ≠ p):(((w.setCell (J p 0) F0).setCell (J p 1) F1).setCell (J p 2) F2).heap[k]? = w.heap[k]? :=
 (yQ _ _ _ _ hk).trans ((yQ _ _ _ _ hk).trans (yQ _ _ _ _ hk))
theorem set3_size {p:Nat} {F0 F1 F2:Value}:(((w.setCell (J p 0) F0).setCell (J p 1) F1).setCell (J p 2) F2).heap.size = w.heap.size:=by simp [World.setCell]
theorem set3_range {p:Nat} {F0 F1 F2:Value} (ht:w.there p 0 3):(((w.setCell (J p 0) F0).setCell (J p 1) F1).setCell (J p 2) F2).rangeAt p 0 [F0,F1,F2]:=yV w p 0 [F0,F1,F2] (fun j K=>ht j K)
theorem dY {p b o n:Nat} {F0 F1 F2:Value} (ht:w.there b o n):(((w.setCell (J p 0) F0).setCell (J p 1) F1).setCell (J p 2) F2).there b o n:=yZ ht p 0 [F0,F1,F2]
theorem set3_below {p:Nat} {F0 F1 F2:Value} (h:ym W0 w) (hp:W0.heap.size ≤ p):ym W0 (((w.setCell (J p 0) F0).setCell (J p 1) F1).setCell (J p 2) F2) :=
 ((h.setCell (p:=(J p 0)) hp F0).setCell (p:=(J p 1)) hp F1).setCell (p:=(J p 2)) hp F2
theorem range_block {b o:Nat} {cs:List Value} (h:w.rangeAt b o cs) (O:w'.heap[b]? = w.heap[b]?):w'.rangeAt b o cs:=fun j v hv=>(yO (a:=(J b (o + j))) O).trans (h j v hv)
theorem rw9_6 (h:RW9 W0 BV q1 q2 x v33 v34 v35 v36 v5 v6 b1 b2 p5 p6 w) (G:x[1]? = some true) (h3:x[3]? = some true) (h4:x[4]? = some true) (h5:x[5]? = some true) {F0 F1 F2:Value} (hF:cy b1 = [F0,F1,F2]) :
  RW9 W0 BV q1 q2 (x.set 6 true) v33 v34 v35 v36 v5 v6 b1 b2 p5 p6 (((w.setCell (J p5 0) F0).setCell (J p5 1) F1).setCell (J p5 2) F2):=by
 obtain ⟨e1,e2,e3,e4⟩:=h.c5 h4
 obtain ⟨f1,f2,f3,f4⟩:=h.c6 h5
 constructor <;> try simp only [gse (show 6 ≠ 0 by decide),gse (show 6 ≠ 1 by decide),gse (show 6 ≠ 2 by decide),gse (show 6 ≠ 3 by decide),gse (show 6 ≠ 4 by decide),gse (show 6 ≠ 5 by decide),gse (show 6 ≠ 7 by decide)]
 ·exact set3_below h.bel e3
 ·exact h.c33
 ·exact h.c35
 ·exact fun _=>⟨(h.c34 G).1,zr (h.c34 G).2 (dl (h.n15 G h4))⟩
 ·exact fun _=>⟨(h.c36 h3).1,zr (h.c36 h3).2 (dl (h.n25 h3 h4))⟩
 ·exact fun _=>⟨e1,by rw [set3_size]; exact e2,e3,dY e4⟩
 ·exact fun _=>⟨f1,by rw [set3_size]; exact f2,f3,dY f4⟩
 ·exact h.n15
 ·exact h.n16
 ·exact h.n25
 ·exact h.n26
 ·exact h.n56
 ·exact fun _=>⟨⟨G,h4⟩,by rw [hF]; exact set3_range e4⟩
 ·exact fun hx=>⟨(h.s6 hx).1,range_block (h.s6 hx).2 (dl (Ne.symm (h.n56 h4 h5)))⟩
theorem rw9_7 (h:RW9 W0 BV q1 q2 x v33 v34 v35 v36 v5 v6 b1 b2 p5 p6 w) (G:x[1]? = some true) (h3:x[3]? = some true) (h4:x[4]? = some true) (h5:x[5]? = some true) {F0 F1 F2:Value} (hF:cQ b2 = [F0,F1,F2]) :
  RW9 W0 BV q1 q2 (x.set 7 true) v33 v34 v35 v36 v5 v6 b1 b2 p5 p6 (((w.setCell (J p6 0) F0).setCell (J p6 1) F1).setCell (J p6 2) F2):=by
 obtain ⟨e1,e2,e3,e4⟩:=h.c5 h4
 obtain ⟨f1,f2,f3,f4⟩:=h.c6 h5
 constructor <;> try simp only [gse (show 7 ≠ 0 by decide),gse (show 7 ≠ 1 by decide),gse (show 7 ≠ 2 by decide),gse (show 7 ≠ 3 by decide),gse (show 7 ≠ 4 by decide),gse (show 7 ≠ 5 by decide),gse (show 7 ≠ 6 by decide)]
 ·exact set3_below h.bel f3
 ·exact h.c33
 ·exact h.c35
 ·exact fun _=>⟨(h.c34 G).1,zr (h.c34 G).2 (dl (h.n16 G h5))⟩
 ·exact fun _=>⟨(h.c36 h3).1,zr (h.c36 h3).2 (dl (h.n26 h3 h5))⟩
 ·exact fun _=>⟨e1,by rw [set3_size]; exact e2,e3,dY e4⟩
 ·exact fun _=>⟨f1,by rw [set3_size]; exact f2,f3,dY f4⟩
 ·exact h.n15
 ·exact h.n16
 ·exact h.n25
 ·exact h.n26
 ·exact h.n56
 ·exact fun hx=>⟨(h.s5 hx).1,range_block (h.s5 hx).2 (dl (h.n56 h4 h5))⟩
 ·exact fun _=>⟨⟨h3,h5⟩,by rw [hF]; exact set3_range f4⟩
end

theorem insT_len (s:Bool) (k:Int):∀ T:List Int,(insT s k T).length ≤ T.length + 1
 | []=>by simp [insT]
 | a :: r=>by
  have:=insT_len s k r
  rw [insT]; split
  ·simp
  ·split <;> simp <;> omega
theorem tks_len (s:Bool):∀ seq:List Od,(tks s seq).length ≤ seq.length
 | []=>by simp [tks]
 | o :: r=>by
  have G:=insT_len s o.ticks (tks s r)
  have D:=tks_len s r
  rw [tks]; simp; omega
def backB:Nat→List Oper→Bool
 | _,[]=>true
 | i,o :: r=>o.after.toList.all (fun e=>decide (e.on < i)) && backB (i + 1) r
theorem back_spec:∀ (l:List Oper) (n:Nat),backB n l = true→∀ (i:Nat) (o:Oper),l[i]? = some o→∀ e ∈ o.after,e.on < n + i
 | [],_,_,i,o,h,_,_=>by simp at h
 | a :: r,n,O,0,o,h,e,he=>by
  simp at h; subst h
  simp only [backB,xc,List.all_eq_true,xd] at O
  exact O.1 e (by simpa using he)
 | a :: r,n,O,i + 1,o,h,e,he=>by
  simp only [backB,xc] at O
  have:=back_spec r (n + 1) O.2 i o (by simpa using h) e he
  omega
theorem acyc (l:List Oper) (h:backB 0 l = true):∀ (i:Nat) (o:Oper),l[i]? = some o→∀ e ∈ o.after,e.on < i:=fun i o Z e he=>by
 have:=back_spec l 0 h i o Z e he; omega
def C10 (b1 b2 p5 p6 N1 N2:Nat):Nat→Value→Prop
 | 0,v=>v = I p5 2
 | 1,v=>v = .func (.func 124) #[I b1 0] #[]
 | 2,v=>∃ a c,v = .slice a N1 c
 | 3,v=>v = H N1
 | 4,v=>v = I p6 2
 | 5,v=>v = .func (.func 128) #[I b2 0] #[]
 | 6,v=>∃ a c,v = .slice a N2 c
 | 7,v=>v = H N2
 | 8,v=>v = H ((N1:Int) + N2)
 | 9,v=>v = H ((N1:Int) + N2)
 | _,_=>True
theorem ey (b1 b2:Nat) (sd1 sd2:Int) (s1 s2:List Od) (w:World) (G:aG 176 true w b1 sd1 s1) (D:aG 179 false w b2 sd2 s2) (n1:s1.length ≤ 20) (n2:s2.length ≤ 20) :
  Calls Tryz.prog 39 #[bd b1,bh b2] w fun e w'=>e = yl (H (((aE true sd1 s1).length:Int) + (aE false sd2 s2).length))∧ym w w':=by
 have xU:=zJ G
 have xS:=zJ D
 generalize hL1:(aE true sd1 s1).length = N1
 generalize hL2:(aE false sd2 s2).length = N2
 have hN1:N1 ≤ 20:=by rw [← hL1,aE,List.length_map]; exact yL (tks_len _ _) n1
 have hN2:N2 ≤ 20:=by rw [← hL2,aE,List.length_map]; exact yL (tks_len _ _) n2
 have HLL:Hid ((aE true sd1 s1).length = N1∧(aE false sd2 s2).length = N2):=⟨hL1,hL2⟩
 have xz:=zf w (N (cy b1).toArray 81)
 have xZ:((w.alloc (N (cy b1).toArray 81)).alloc (N (cQ b2).toArray 81)).heap.size = w.heap.size + 1 + 1:=by rw [zf,xz]
 have r0:=zg w (cy b1) 81
 have r1:=zg (w.alloc (N (cy b1).toArray 81)) (cQ b2) 81
 rw [xz] at r1
 have r0':=zb r0 (C:=w.heap.size + 1) ((Below.refl _ _).alloc (by rw [xz]; omega) (N (cQ b2).toArray 81)) (by omega)
 have uB:Hid (ym w ((w.alloc (N (cy b1).toArray 81)).alloc (N (cQ b2).toArray 81))):=(eB _ _).alloc (by rw [xz]; omega) _
 have pY:=Y r0'
 have HR6:=Y r1
 have qb:=Y xZ
 have qN:=Y (zr G ((U uB).block _ xU))
 have vu:=Y (zr D ((U uB).block _ xS))
 clear r0 r1 r0' xz xZ hL1 hL2 G D
 unfold bd bh
 go_enter Tryz.func39,Tryz.ntmps39
 go_wp2_with fail
 unfold cy cQ at uB pY HR6 qb qN vu
 generalize hW:((w.alloc (N (List.toArray [.func (.func 122) #[I b1 0] #[],.func (.func 123) #[I b1 0] #[],.func (.func 124) #[I b1 0] #[]]) 81)).alloc (N (List.toArray [.func (.func 126) #[I b2 0] #[],.func (.func 127) #[I b2 0] #[],.func (.func 128) #[I b2 0] #[]]) 81)) = W at uB pY HR6 qb qN vu
 have hb1s:b1 < W.heap.size:=zJ (U qN)
 have hb2s:b2 < W.heap.size:=zJ (U vu)
 have hp5:w.heap.size < W.heap.size:=by rw [U qb]; omega
 have hp6:w.heap.size + 1 < W.heap.size:=by rw [U qb]; omega
 refine dg (RGrow W (fun f=>{ tmps:=#[bd b1,bh b2,yn w 0,I (w.heap.size + 1) 0,f 9,f 0,f 1,f 2,f 3,f 4,f 5,f 6,f 7,f 8],defers:=[] }) (C10 b1 b2 w.heap.size (w.heap.size + 1) N1 N2)) (by kernel_rfl) ?_ ?_ ?_
 ·refine ⟨upd (fun _=>M) 9 (H 0),rfl,?_,fun j K=>by rw [yG] at K; split at K <;> simp at K⟩
  rw [← hW]
  exact ⟨rfl,rfl,rfl,Nat.le_refl _,fun _ _=>rfl⟩
 ·rintro x xj V ⟨f,rfl,xh,hC⟩ hx xL
  have hall9:=zW xL hx (acyc _ (by kernel_rfl)) 9 (by simp)
  have e9:f 9 = H ((N1:Int) + N2):=hC 9 hall9
  simp only [e9]
  have xr:=Y xh
  clear hC hx xL hall9 e9 xh
  go_wp2_with fail
  go_ret
  exact ⟨rfl,(U uB).trans ((U xr).mono (U uB).size)⟩
 ·rintro x xj V i o ⟨f,rfl,xh,hC⟩ hx Z xu Q
  have xr:=Y xh
  have HC:=Y hC
  match i,Z with
  | 0,Z =>
   obtain rfl:=ya Z
   clear Q hC xh
   rw [if_pos (by rfl)];unfold Oper.wp;go_simp
   exact ⟨upd f 0 (yn w 2),by simp [upd],U xr,zA (U HC) rfl⟩
  | 1,Z =>
   obtain rfl:=ya Z
   have g0:C10 b1 b2 w.heap.size (w.heap.size + 1) N1 N2 0 (f 0):=hC 0 (yd Q 0 rfl)
   simp only [C10] at g0
   have d2:=zb (U pY) xh hp5 2 _ rfl
   clear Q hC xh
   rw [if_pos (by rfl)];unfold Oper.wp;go_simp
   exact ⟨upd f 1 (.func (.func 124) #[I b1 0] #[]),by simp [upd,g0],U xr,zA (U HC) rfl⟩
  | 2,Z =>
   obtain rfl:=ya Z
   have g1:C10 b1 b2 w.heap.size (w.heap.size + 1) N1 N2 1 (f 1):=hC 1 (yd Q 1 rfl)
   simp only [C10] at g1
   have ht:=zr (U qN) (xh.block _ hb1s)
   have qx:=Y ht
   clear Q hC xh ht
   rw [if_pos (by rfl)];unfold Oper.wp;go_simp
   refine (levels_b b1 sd1 s1 V (U qx) n1).mono ?_
   rintro e w4 ⟨v4,rfl,⟨al,cp,rfl,-,-⟩,xy⟩
   rw [(U HLL).1]
   exact ⟨upd f 2 (.slice al N1 cp),by simp [upd,g1],(U xr).trans (xy.mono (U xr).size),zA (U HC) ⟨al,cp,rfl⟩⟩
  | 3,Z =>
   obtain rfl:=ya Z
   have g2:C10 b1 b2 w.heap.size (w.heap.size + 1) N1 N2 2 (f 2):=hC 2 (yd Q 2 rfl)
   obtain ⟨al,cp,g2⟩:=g2
   clear Q hC xh
   rw [if_pos (by rfl)];unfold Oper.wp;go_simp
   exact ⟨upd f 3 (H N1),by simp [upd,g2],U xr,zA (U HC) rfl⟩
  | 4,Z =>
   obtain rfl:=ya Z
   clear Q hC xh
   rw [if_pos (by rfl)];unfold Oper.wp;go_simp
   exact ⟨upd f 4 (I (w.heap.size + 1) 2),by simp [upd],U xr,zA (U HC) rfl⟩
  | 5,Z =>
   obtain rfl:=ya Z
   have g4:C10 b1 b2 w.heap.size (w.heap.size + 1) N1 N2 4 (f 4):=hC 4 (yd Q 4 rfl)
   simp only [C10] at g4
   have d2:=zb (U HR6) xh hp6 2 _ rfl
   clear Q hC xh
   rw [if_pos (by rfl)];unfold Oper.wp;go_simp
   exact ⟨upd f 5 (.func (.func 128) #[I b2 0] #[]),by simp [upd,g4],U xr,zA (U HC) rfl⟩
  | 6,Z =>
   obtain rfl:=ya Z
   have g5:C10 b1 b2 w.heap.size (w.heap.size + 1) N1 N2 5 (f 5):=hC 5 (yd Q 5 rfl)
   simp only [C10] at g5
   have ht:=zr (U vu) (xh.block _ hb2s)
   have qx:=Y ht
   clear Q hC xh ht
   rw [if_pos (by rfl)];unfold Oper.wp;go_simp
   refine (levels_s b2 sd2 s2 V (U qx) n2).mono ?_
   rintro e w4 ⟨v4,rfl,⟨al,cp,rfl,-,-⟩,xy⟩
   rw [(U HLL).2]
   exact ⟨upd f 6 (.slice al N2 cp),by simp [upd,g5],(U xr).trans (xy.mono (U xr).size),zA (U HC) ⟨al,cp,rfl⟩⟩
  | 7,Z =>
   obtain rfl:=ya Z
   have g6:C10 b1 b2 w.heap.size (w.heap.size + 1) N1 N2 6 (f 6):=hC 6 (yd Q 6 rfl)
   obtain ⟨al,cp,g6⟩:=g6
   clear Q hC xh
   rw [if_pos (by rfl)];unfold Oper.wp;go_simp
   exact ⟨upd f 7 (H N2),by simp [upd,g6],U xr,zA (U HC) rfl⟩
  | 8,Z =>
   obtain rfl:=ya Z
   have g3:C10 b1 b2 w.heap.size (w.heap.size + 1) N1 N2 3 (f 3):=hC 3 (yd Q 3 rfl)
   have g7:C10 b1 b2 w.heap.size (w.heap.size + 1) N1 N2 7 (f 7):=hC 7 (yd Q 7 rfl)
   simp only [C10] at g3
   simp only [C10] at g7
   have hwr8:IntKind.i64.wrap ((N1:Int) + N2) = (N1:Int) + N2:=by rw [IntKind.wrap_i64]; omega
   clear Q hC xh
   rw [if_pos (by rfl)];unfold Oper.wp;go_simp
   exact ⟨upd f 8 (H ((N1:Int) + N2)),by simp [upd,g3,g7],U xr,zA (U HC) rfl⟩
  | 9,Z =>
   obtain rfl:=ya Z
   have g8:C10 b1 b2 w.heap.size (w.heap.size + 1) N1 N2 8 (f 8):=hC 8 (yd Q 8 rfl)
   simp only [C10] at g8
   clear Q hC xh
   rw [if_pos (by rfl)];unfold Oper.wp;go_simp
   exact ⟨upd f 9 (H ((N1:Int) + N2)),by simp [upd,g8],U xr,zA (U HC) rfl⟩
  | n + 10,Z=>simp at Z
end Go.Proofs.YtbakanofkghmiaaGreat
