/-
  The reason why a command is refused, by the program: proved by walking the functions.
-/
import Derived.Test.YtaoaomipplmjcaaDj02
import Derived.Test.YtaoaomipplmjcaaDj31
namespace Go.Proofs.Ytaoaomipplmjcaa
open Go.RowKit
set_option linter.unusedVariables false

def refR (next:Int) (l:List Od) (c:Cm):Int :=
 if c.k = 1 then (if zaL ⟨1,c.s,c.t,c.l,c.q,0,c.p,c.g⟩ c = true then newR next l c else 2)
 else if c.k = 2 then (if zaL ⟨2,0,0,0,0,c.i,0,⟨#[]⟩⟩ c = true then idR l c.i else 2)
 else if c.k = 3 then (if zaL ⟨3,0,0,0,c.q,c.i,0,⟨#[]⟩⟩ c = true then redR l c.i c.q else 2)
 else if c.k = 4 then (if zaL ⟨4,0,0,0,0,0,0,⟨#[]⟩⟩ c = true then 0 else 2)
 else 1
set_option maxRecDepth 100000 in
set_option maxHeartbeats 800000 in
theorem refusal_any (next:Int) (vb:Value) (l:List Od) (c:Cm) (w:World) (hr:RdR Od.vs 6 w vb l) (hs:SlOk vb) (hg:GoodL l) (h0:0 ≤ next) (h1:next ≤ 1000000) (ht:c.g.size ≤ maxLen) :
  Calls Try.prog 21 #[.agg #[.int .i64 next,vb],cmV c] w fun e w'=>e = .returned (.int .i64 (refR next l c))∧Below w.heap.size w w':=by
 obtain ⟨kk,s,ty,li,qt,ii,pr,tg⟩:=c
 unfold cmV
 simp only at ht ⊢
 by_cases e1:kk = 1
 ·subst e1; exact refusal_1 next vb l s ty li qt ii pr tg w hr hs hg h0 h1 ht
 by_cases e2:kk = 2
 ·subst e2; exact refusal_2 next vb l s ty li qt ii pr tg w hr hs hg h0 h1 ht
 by_cases e3:kk = 3
 ·subst e3; exact refusal_3 next vb l s ty li qt ii pr tg w hr hs hg h0 h1 ht
 by_cases e4:kk = 4
 ·subst e4; exact refusal_4 next vb l s ty li qt ii pr tg w hr hs hg h0 h1 ht
 have HRE:Hid (refR next l ⟨kk,s,ty,li,qt,ii,pr,tg⟩ = 1):=by show _ = _; simp [refR,e1,e2,e3,e4]
 have hci:cmdI ⟨kk,s,ty,li,qt,ii,pr,tg⟩ = .nilIface:=by simp [cmdI,e1,e2,e3,e4]
 obtain ⟨a,cap,rfl,hlen,hc⟩:=hr
 clear hc hg hs h0 h1 ht hlen e1 e2 e3 e4
 have hs1:(w.alloc (Obj.cells #[.int .i64 next,.slice a l.length cap] 25)).heap.size = w.heap.size + 1:=zc _ _
 have hs2:((w.alloc (Obj.cells #[.int .i64 next,.slice a l.length cap] 25)).alloc (Obj.cells #[.int .i64 kk,.int .i64 s,.int .i64 ty,.int .i64 li,.int .i64 qt,.int .i64 ii,.float .f64 pr,.string tg] 32)).heap.size = w.heap.size + 1 + 1:=by rw [zc,hs1]
 have r1:=zd w [.int .i64 next,.slice a l.length cap] 25
 have r2:=zd (w.alloc (Obj.cells #[.int .i64 next,.slice a l.length cap] 25)) [.int .i64 kk,.int .i64 s,.int .i64 ty,.int .i64 li,.int .i64 qt,.int .i64 ii,.float .f64 pr,.string tg] 32
 rw [hs1] at r2
 have b12:Below (w.heap.size + 1) (w.alloc (Obj.cells #[.int .i64 next,.slice a l.length cap] 25)) ((w.alloc (Obj.cells #[.int .i64 next,.slice a l.length cap] 25)).alloc (Obj.cells #[.int .i64 kk,.int .i64 s,.int .i64 ty,.int .i64 li,.int .i64 qt,.int .i64 ii,.float .f64 pr,.string tg] 32)):=(Below.refl _ _).alloc (by rw [hs1]; omega) _
 have HB2:Hid (Below w.heap.size w ((w.alloc (Obj.cells #[.int .i64 next,.slice a l.length cap] 25)).alloc (Obj.cells #[.int .i64 kk,.int .i64 s,.int .i64 ty,.int .i64 li,.int .i64 qt,.int .i64 ii,.float .f64 pr,.string tg] 32))):=((Below.refl _ _).alloc (Nat.le_refl _) _).alloc (by rw [hs1]; omega) _
 have HX:Hid (_∧_):=⟨zb r1 b12 (by omega),r2⟩
 have HLT:Hid (w.heap.size < ((w.alloc (Obj.cells #[.int .i64 next,.slice a l.length cap] 25)).alloc (Obj.cells #[.int .i64 kk,.int .i64 s,.int .i64 ty,.int .i64 li,.int .i64 qt,.int .i64 ii,.float .f64 pr,.string tg] 32)).heap.size∧w.heap.size + 1 < ((w.alloc (Obj.cells #[.int .i64 next,.slice a l.length cap] 25)).alloc (Obj.cells #[.int .i64 kk,.int .i64 s,.int .i64 ty,.int .i64 li,.int .i64 qt,.int .i64 ii,.float .f64 pr,.string tg] 32)).heap.size):=⟨by omega,by omega⟩
 clear hs1 hs2 r1 r2 b12
 go_enter Try.func21,Try.ntmps21
 refine wp_seq_k fun K hK=>?_
 have HK1:=hide hK
 clear hK
 go_wp2_with fail
 refine za HK1 _ _ ?_
 clear HK1
 generalize ((w.alloc (Obj.cells #[.int .i64 next,.slice a l.length cap] 25)).alloc (Obj.cells #[.int .i64 kk,.int .i64 s,.int .i64 ty,.int .i64 li,.int .i64 qt,.int .i64 ii,.float .f64 pr,.string tg] 32)) = X2 at HB2 HX HLT ⊢
 have HX:Hid (X2.rangeAt w.heap.size 0 [.int .i64 next,.slice a l.length cap]∧X2.rangeAt (w.heap.size + 1) 0 [.int .i64 kk,.int .i64 s,.int .i64 ty,.int .i64 li,.int .i64 qt,.int .i64 ii,.float .f64 pr,.string tg]) :=za HX
 have k0:X2.cell? ⟨w.heap.size,0,none⟩ = some (.int .i64 next):=(za HX).1 0 _ rfl
 have k1:X2.cell? ⟨w.heap.size,1,none⟩ = some (.slice a l.length cap):=(za HX).1 1 _ rfl
 have o0:X2.cell? ⟨w.heap.size + 1,0,none⟩ = some (.int .i64 kk):=(za HX).2 0 _ rfl
 have o1:X2.cell? ⟨w.heap.size + 1,1,none⟩ = some (.int .i64 s):=(za HX).2 1 _ rfl
 have o2:X2.cell? ⟨w.heap.size + 1,2,none⟩ = some (.int .i64 ty):=(za HX).2 2 _ rfl
 have o3:X2.cell? ⟨w.heap.size + 1,3,none⟩ = some (.int .i64 li):=(za HX).2 3 _ rfl
 have o4:X2.cell? ⟨w.heap.size + 1,4,none⟩ = some (.int .i64 qt):=(za HX).2 4 _ rfl
 have o5:X2.cell? ⟨w.heap.size + 1,5,none⟩ = some (.int .i64 ii):=(za HX).2 5 _ rfl
 have o6:X2.cell? ⟨w.heap.size + 1,6,none⟩ = some (.float .f64 pr):=(za HX).2 6 _ rfl
 have o7:X2.cell? ⟨w.heap.size + 1,7,none⟩ = some (.string tg):=(za HX).2 7 _ rfl
 go_wp2_with fail
 refine (zL ⟨kk,s,ty,li,qt,ii,pr,tg⟩ X2).mono ?_
 rw [hci]
 clear hci
 rintro e w4 ⟨rfl,hb4⟩
 have HB4:=hide ((za HB2).trans (hb4.mono (za HB2).size))
 clear hb4
 go_wp2_with fail
 go_ret
 exact ⟨zx (za HRE).symm,za HB4⟩
theorem okS_good {next:Int} {l:List Od} (h:okS next l = true):GoodL l∧0 ≤ next∧next ≤ 1000000:=by
 simp only [okS,Bool.and_eq_true,decide_eq_true_eq] at h
 obtain ⟨⟨⟨h1,h2⟩,h4⟩,_⟩:=h
 refine ⟨⟨h2,fun o ho=>?_,(zba h4).1⟩,?_,?_⟩
 ·have:=zbu h4 o ho
  simp [ordB,betB] at this
  omega
 ·simp [betB] at h1; omega
 ·simp [betB] at h1; omega
def reaC (next:Int) (l:List Od):Int:=if okS next l = true then 0 else 1
end Go.Proofs.Ytaoaomipplmjcaa
namespace Go.Proofs.Ytaoaomipplmjcaa
open Go.RowKit
set_option linter.unusedVariables false

theorem zF {W:World} {b n j:Nat} (h:W.there b 0 n) (hj:j < n):∃ u,W.cell? ⟨b,j,none⟩ = some u∧W.frozen? ⟨b,j,none⟩ = false:=by
  obtain ⟨h1,h2⟩:=h j hj
  rw [Nat.zero_add] at h1 h2
  obtain ⟨u,hu⟩:=Option.isSome_iff_exists.1 h1
  exact ⟨u,hu,h2⟩
theorem bit_or {x:List Bool} {n j:Nat} (hx:x.length = n) (hj:j < n):x[j]? = some false ∨ x[j]? = some true:=by
  rw [List.getElem?_eq_getElem (by omega)]
  cases x[j] <;> simp
end Go.Proofs.Ytaoaomipplmjcaa
