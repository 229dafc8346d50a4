/-
  The reason why a command is refused, by the program: proved by walking the function, kind by kind.
-/
import Derived.Test.YtdfihaabhichdaaGreatRj18
namespace Go.Proofs.YtdfihaabhichdaaGreat
open Go.RowKit
set_option linter.unusedVariables false

def DK (iv tv cv:Value) (sm:Bool) (p:Prop) (V:World):Nat→Value→Prop
 | 0,v=>v = iv
 | 1,v=>v = tv
 | 2,v=>v = cv
 | 3,v=>v = .bool sm
 | 4,v=>v = .bool (!sm)
 | _,_=>True
set_option maxRecDepth 100000 in
set_option maxHeartbeats 1600000 in
theorem refusal_1 (next:Int) (vb:Value) (l:List Od) (s ty li qt ii:Int) (pr:Nat) (tg:ByteArray) (w:World) (hr:RdR Od.vs 6 w vb l) (hs:SlOk vb) (hg:GoodL l) (h0:0 ≤ next) (h1:next ≤ 1000000) (ht:tg.size ≤ maxLen) :
  Calls Tryz.prog 79 #[.agg #[.int .i64 next,vb],.agg #[.int .i64 1,.int .i64 s,.int .i64 ty,.int .i64 li,.int .i64 qt,.int .i64 ii,.float .f64 pr,.string tg]] w fun e w'=>e = .returned (.int .i64 (if zaB ⟨1,s,ty,li,qt,0,pr,tg⟩ ⟨1,s,ty,li,qt,ii,pr,tg⟩ = true then newR next l ⟨1,s,ty,li,qt,ii,pr,tg⟩ else 2))∧Below w.heap.size w w':=by
 have HR:=hide hr
 have HG:=hide hg
 have HSL:=hide hs
 have HNUM:Hid (0 ≤ next∧next ≤ 1000000):=⟨h0,h1⟩
 have HTG:=hide ht
 obtain ⟨a,cap,rfl,hlen,hc⟩:=hr
 clear hc hg hs h0 h1 ht hlen
 generalize hsm:zaB ⟨1,s,ty,li,qt,0,pr,tg⟩ ⟨1,s,ty,li,qt,ii,pr,tg⟩ = sm
 have HSM:=hide hsm
 clear hsm
 have hs1:(w.alloc (Obj.cells #[.int .i64 next,.slice a l.length cap] 32)).heap.size = w.heap.size + 1:=zf _ _
 have hs2:((w.alloc (Obj.cells #[.int .i64 next,.slice a l.length cap] 32)).alloc (Obj.cells #[.int .i64 1,.int .i64 s,.int .i64 ty,.int .i64 li,.int .i64 qt,.int .i64 ii,.float .f64 pr,.string tg] 37)).heap.size = w.heap.size + 1 + 1:=by rw [zf,hs1]
 have r1:=zg w [.int .i64 next,.slice a l.length cap] 32
 have r2:=zg (w.alloc (Obj.cells #[.int .i64 next,.slice a l.length cap] 32)) [.int .i64 1,.int .i64 s,.int .i64 ty,.int .i64 li,.int .i64 qt,.int .i64 ii,.float .f64 pr,.string tg] 37
 rw [hs1] at r2
 have b12:Below (w.heap.size + 1) (w.alloc (Obj.cells #[.int .i64 next,.slice a l.length cap] 32)) ((w.alloc (Obj.cells #[.int .i64 next,.slice a l.length cap] 32)).alloc (Obj.cells #[.int .i64 1,.int .i64 s,.int .i64 ty,.int .i64 li,.int .i64 qt,.int .i64 ii,.float .f64 pr,.string tg] 37)):=(Below.refl _ _).alloc (by rw [hs1]; omega) _
 have HB2:Hid (Below w.heap.size w ((w.alloc (Obj.cells #[.int .i64 next,.slice a l.length cap] 32)).alloc (Obj.cells #[.int .i64 1,.int .i64 s,.int .i64 ty,.int .i64 li,.int .i64 qt,.int .i64 ii,.float .f64 pr,.string tg] 37))):=((Below.refl _ _).alloc (Nat.le_refl _) _).alloc (by rw [hs1]; omega) _
 have HX:Hid (_∧_):=⟨zb r1 b12 (by omega),r2⟩
 have HLT:Hid (w.heap.size < ((w.alloc (Obj.cells #[.int .i64 next,.slice a l.length cap] 32)).alloc (Obj.cells #[.int .i64 1,.int .i64 s,.int .i64 ty,.int .i64 li,.int .i64 qt,.int .i64 ii,.float .f64 pr,.string tg] 37)).heap.size∧w.heap.size + 1 < ((w.alloc (Obj.cells #[.int .i64 next,.slice a l.length cap] 32)).alloc (Obj.cells #[.int .i64 1,.int .i64 s,.int .i64 ty,.int .i64 li,.int .i64 qt,.int .i64 ii,.float .f64 pr,.string tg] 37)).heap.size):=⟨by omega,by omega⟩
 clear hs1 hs2 r1 r2 b12
 go_enter Tryz.func79,Tryz.ntmps79
 refine wp_seq_k fun K hK=>?_
 have HK1:=hide hK
 clear hK
 go_wp2_with fail
 refine za HK1 _ _ ?_
 clear HK1
 generalize ((w.alloc (Obj.cells #[.int .i64 next,.slice a l.length cap] 32)).alloc (Obj.cells #[.int .i64 1,.int .i64 s,.int .i64 ty,.int .i64 li,.int .i64 qt,.int .i64 ii,.float .f64 pr,.string tg] 37)) = X2 at HB2 HX HLT ⊢
 have HX:Hid (X2.rangeAt w.heap.size 0 [.int .i64 next,.slice a l.length cap]∧X2.rangeAt (w.heap.size + 1) 0 [.int .i64 1,.int .i64 s,.int .i64 ty,.int .i64 li,.int .i64 qt,.int .i64 ii,.float .f64 pr,.string tg]):=za HX
 have o0:X2.cell? ⟨w.heap.size + 1,0,none⟩ = some (.int .i64 1):=(za HX).2 0 _ rfl
 have o1:X2.cell? ⟨w.heap.size + 1,1,none⟩ = some (.int .i64 s):=(za HX).2 1 _ rfl
 have o2:X2.cell? ⟨w.heap.size + 1,2,none⟩ = some (.int .i64 ty):=(za HX).2 2 _ rfl
 have o3:X2.cell? ⟨w.heap.size + 1,3,none⟩ = some (.int .i64 li):=(za HX).2 3 _ rfl
 have o4:X2.cell? ⟨w.heap.size + 1,4,none⟩ = some (.int .i64 qt):=(za HX).2 4 _ rfl
 have o5:X2.cell? ⟨w.heap.size + 1,5,none⟩ = some (.int .i64 ii):=(za HX).2 5 _ rfl
 have o6:X2.cell? ⟨w.heap.size + 1,6,none⟩ = some (.float .f64 pr):=(za HX).2 6 _ rfl
 have o7:X2.cell? ⟨w.heap.size + 1,7,none⟩ = some (.string tg):=(za HX).2 7 _ rfl
 go_wp2_with fail
 refine (zaf ⟨1,s,ty,li,qt,ii,pr,tg⟩ X2).mono ?_
 have hci:cmdI ⟨1,s,ty,li,qt,ii,pr,tg⟩ = .iface 128 (.agg #[.int .i64 s,.int .i64 ty,.int .i64 li,.int .i64 qt,.float .f64 pr,.string tg]):=by simp [cmdI,noV]
 rw [hci]
 clear hci
 rintro e w4 ⟨rfl,hb4⟩
 have HB4:=hide ((za HB2).trans (hb4.mono (za HB2).size))
 have HX4:Hid (w4.rangeAt w.heap.size 0 [.int .i64 next,.slice a l.length cap]∧w4.rangeAt (w.heap.size + 1) 0 [.int .i64 1,.int .i64 s,.int .i64 ty,.int .i64 li,.int .i64 qt,.int .i64 ii,.float .f64 pr,.string tg]∧w.heap.size < w4.heap.size∧w.heap.size + 1 < w4.heap.size):=⟨zb (za HX).1 hb4 (za HLT).1,zb (za HX).2 hb4 (za HLT).2,Nat.lt_of_lt_of_le (za HLT).1 hb4.size,Nat.lt_of_lt_of_le (za HLT).2 hb4.size⟩
 clear hb4 o0 o1 o2 o3 o4 o5 o6 o7
 go_wp2_with fail
 refine zj (RG w4 (fun f=>{ tmps:=#[.agg #[.int .i64 next,.slice a l.length cap],.agg #[.int .i64 1,.int .i64 s,.int .i64 ty,.int .i64 li,.int .i64 qt,.int .i64 ii,.float .f64 pr,.string tg],.pointer (some ⟨w.heap.size,0,none⟩),.pointer (some ⟨w.heap.size + 1,0,none⟩),.int .i64 0,.iface 128 (.agg #[.int .i64 s,.int .i64 ty,.int .i64 li,.int .i64 qt,.float .f64 pr,.string tg]),undef,undef,undef,.agg #[.int .i64 1,.int .i64 s,.int .i64 ty,.int .i64 li,.int .i64 qt,.int .i64 ii,.float .f64 pr,.string tg],.iface 128 (.agg #[.int .i64 s,.int .i64 ty,.int .i64 li,.int .i64 qt,.float .f64 pr,.string tg]),.iface 128 (.agg #[.int .i64 s,.int .i64 ty,.int .i64 li,.int .i64 qt,.float .f64 pr,.string tg]),.bool false,f 0,f 1,f 2,f 3,f 4,undef,undef,undef,undef,undef,undef,undef,undef,undef,undef,undef,undef,undef,undef,undef,undef,undef,undef,undef,undef],defers:=[] }) 99 (DK (.iface 128 (.agg #[.int .i64 s,.int .i64 ty,.int .i64 li,.int .i64 qt,.float .f64 pr,.string tg])) (cmV ⟨1,s,ty,li,qt,0,pr,tg⟩) (.agg #[.int .i64 1,.int .i64 s,.int .i64 ty,.int .i64 li,.int .i64 qt,.int .i64 ii,.float .f64 pr,.string tg]) sm)) (by kernel_rfl) ?_ ?_ ?_
 ·exact ⟨fun _=>undef,rfl,⟨rfl,rfl,rfl,Nat.le_refl _,fun _ _=>rfl⟩,fun j hj=>by rw [List.getElem?_replicate] at hj; split at hj <;> simp at hj⟩
 ·rintro x A V ⟨f,rfl,hbel,hD⟩ hx hrd
  have hallx:=zS hrd hx (by kernel_rfl)
  have e4:f 4 = .bool (!sm):=hD 4 (hallx 4 (by simp))
  have HBV:=hide ((za HB4).trans (hbel.mono (za HB4).size))
  have z0:=zb (za HX4).1 hbel (za HX4).2.2.1 0 _ rfl
  have z1:=zb (za HX4).1 hbel (za HX4).2.2.1 1 _ rfl
  rw [Nat.zero_add] at z0 z1
  have ta1:∀ W:World,Sem.run Tryz.prog (Instr.typeAssert (.iface 128 (.agg #[.int .i64 s,.int .i64 ty,.int .i64 li,.int .i64 qt,.float .f64 pr,.string tg])) 125 128 true) W = .ok (.tuple #[.agg #[.int .i64 s,.int .i64 ty,.int .i64 li,.int .i64 qt,.float .f64 pr,.string tg],.bool true]) W:=fun W=>by kernel_rfl
  simp only [e4]
  generalize f 0 = e0
  generalize f 1 = e1
  generalize f 2 = e2
  generalize f 3 = e3
  clear hD hallx e4 hrd hx hbel f x
  cases sm
  ·go_wp2_with fail
   go_ret
   exact ⟨rfl,za HBV⟩
  ·have hlt:w.heap.size < V.heap.size:=World.block_lt_of_cell? V ⟨w.heap.size,0,none⟩ z0
   have y0:World.cell? (V.alloc (Obj.cells #[.int .i64 s,.int .i64 ty,.int .i64 li,.int .i64 qt,.float .f64 pr,.string tg] 128)) ⟨w.heap.size,0,none⟩ = some (.int .i64 next):=(World.cell?_alloc_lt _ _ _ hlt).trans z0
   have y1:World.cell? (V.alloc (Obj.cells #[.int .i64 s,.int .i64 ty,.int .i64 li,.int .i64 qt,.float .f64 pr,.string tg] 128)) ⟨w.heap.size,1,none⟩ = some (.slice a l.length cap):=(World.cell?_alloc_lt _ _ _ hlt).trans z1
   have HBA:Hid (Below w.heap.size w (V.alloc (Obj.cells #[.int .i64 s,.int .i64 ty,.int .i64 li,.int .i64 qt,.float .f64 pr,.string tg] 128))):=(za HBV).alloc (za HBV).size _
   clear z0 z1 hlt
   have hsf:=sfl
   go_wp2_with fail
   refine (newRefusal_any next _ l ⟨1,s,ty,li,qt,ii,pr,tg⟩ _ (zi (za HR) (za HBA) (Nat.le_refl _)) (za HSL) (za HG) (za HNUM).1 (za HNUM).2 (za HTG)).mono ?_
   rintro e w7 ⟨rfl,hb7⟩
   have HB7:=hide ((za HBA).trans (hb7.mono (za HBA).size))
   clear hb7
   go_wp2_with fail
   go_ret
   exact ⟨rfl,za HB7⟩
 ·rintro x A V i op ⟨f,rfl,hbel,hD⟩ hcl hx ho hxi hall
  clear hcl
  have HBV:=hide hbel
  have HD:=hide hD
  have u0:=zb (za HX4).2.1 hbel (za HX4).2.2.2 0 _ rfl
  have u1:=zb (za HX4).2.1 hbel (za HX4).2.2.2 1 _ rfl
  have u2:=zb (za HX4).2.1 hbel (za HX4).2.2.2 2 _ rfl
  have u3:=zb (za HX4).2.1 hbel (za HX4).2.2.2 3 _ rfl
  have u4:=zb (za HX4).2.1 hbel (za HX4).2.2.2 4 _ rfl
  have u5:=zb (za HX4).2.1 hbel (za HX4).2.2.2 5 _ rfl
  have u6:=zb (za HX4).2.1 hbel (za HX4).2.2.2 6 _ rfl
  have u7:=zb (za HX4).2.1 hbel (za HX4).2.2.2 7 _ rfl
  rw [Nat.zero_add] at u0 u1 u2 u3 u4 u5 u6 u7
  match i,ho with
  | 0,ho =>
   obtain rfl:=Option.some.inj ho
   clear hall hD hbel
   rw [if_pos (by rfl)]
   unfold Oper.wp
   go_simp
   exact ⟨upd f 0 (.iface 128 (.agg #[.int .i64 s,.int .i64 ty,.int .i64 li,.int .i64 qt,.float .f64 pr,.string tg])),by simp [upd],ze (za HBV) (za HD) (by decide) rfl⟩
  | 1,ho =>
   obtain rfl:=Option.some.inj ho
   have g:f 0 = .iface 128 (.agg #[.int .i64 s,.int .i64 ty,.int .i64 li,.int .i64 qt,.float .f64 pr,.string tg]):=hD 0 (hall ⟨0,.data⟩ (by simp) rfl)
   have hm:∀ W:World,Sem.run Tryz.prog (method 327 128 (.agg #[.int .i64 s,.int .i64 ty,.int .i64 li,.int .i64 qt,.float .f64 pr,.string tg]) "loop.example/g00092/impl.told") W = .ok (118,.agg #[.int .i64 s,.int .i64 ty,.int .i64 li,.int .i64 qt,.float .f64 pr,.string tg]) W:=fun W=>by kernel_rfl
   clear hall hD hbel
   rw [if_pos (by rfl)]
   unfold Oper.wp
   go_simp
   refine (toldNew_any ⟨1,s,ty,li,qt,ii,pr,tg⟩ V).mono ?_
   rintro e w4 ⟨rfl,hb4⟩
   exact ⟨upd f 1 (cmV ⟨1,s,ty,li,qt,0,pr,tg⟩),by simp [upd,g]; rfl,zai (za HBV) (za HD) hb4 (by decide) (fun j v h=>h) rfl⟩
  | 2,ho =>
   obtain rfl:=Option.some.inj ho
   clear hall hD hbel
   rw [if_pos (by rfl)]
   unfold Oper.wp
   go_simp
   exact ⟨upd f 2 (.agg #[.int .i64 1,.int .i64 s,.int .i64 ty,.int .i64 li,.int .i64 qt,.int .i64 ii,.float .f64 pr,.string tg]),by simp [upd],ze (za HBV) (za HD) (by decide) rfl⟩
  | 3,ho =>
   obtain rfl:=Option.some.inj ho
   have g1:f 1 = cmV ⟨1,s,ty,li,qt,0,pr,tg⟩:=hD 1 (hall ⟨1,.data⟩ (by simp) rfl)
   have g2:f 2 = .agg #[.int .i64 1,.int .i64 s,.int .i64 ty,.int .i64 li,.int .i64 qt,.int .i64 ii,.float .f64 pr,.string tg]:=hD 2 (hall ⟨2,.data⟩ (by simp) rfl)
   clear hall hD hbel
   rw [if_pos (by rfl)]
   unfold Oper.wp
   go_simp
   refine (zbL ⟨1,s,ty,li,qt,0,pr,tg⟩ ⟨1,s,ty,li,qt,ii,pr,tg⟩ V).mono ?_
   rw [za HSM]
   rintro e w4 ⟨rfl,hb4⟩
   exact ⟨upd f 3 (.bool sm),by simp [upd,g1,g2],zai (za HBV) (za HD) hb4 (by decide) (fun j v h=>h) rfl⟩
  | 4,ho =>
   obtain rfl:=Option.some.inj ho
   have g:f 3 = .bool sm:=hD 3 (hall ⟨3,.data⟩ (by simp) rfl)
   clear hall hD hbel
   rw [if_pos (by rfl)]
   unfold Oper.wp
   go_simp
   exact ⟨upd f 4 (.bool (!sm)),by simp [upd,g],ze (za HBV) (za HD) (by decide) rfl⟩
  | n + 5,ho=>simp at ho
set_option maxRecDepth 100000 in
set_option maxHeartbeats 1600000 in
theorem refusal_2 (next:Int) (vb:Value) (l:List Od) (s ty li qt ii:Int) (pr:Nat) (tg:ByteArray) (w:World) (hr:RdR Od.vs 6 w vb l) (hs:SlOk vb) (hg:GoodL l) (h0:0 ≤ next) (h1:next ≤ 1000000) (ht:tg.size ≤ maxLen) :
  Calls Tryz.prog 79 #[.agg #[.int .i64 next,vb],.agg #[.int .i64 2,.int .i64 s,.int .i64 ty,.int .i64 li,.int .i64 qt,.int .i64 ii,.float .f64 pr,.string tg]] w fun e w'=>e = .returned (.int .i64 (if zaB ⟨2,0,0,0,0,ii,0,⟨#[]⟩⟩ ⟨2,s,ty,li,qt,ii,pr,tg⟩ = true then idR l ii else 2))∧Below w.heap.size w w':=by
 have HR:=hide hr
 have HG:=hide hg
 have HSL:=hide hs
 have HNUM:Hid (0 ≤ next∧next ≤ 1000000):=⟨h0,h1⟩
 have HTG:=hide ht
 obtain ⟨a,cap,rfl,hlen,hc⟩:=hr
 clear hc hg hs h0 h1 ht hlen
 generalize hsm:zaB ⟨2,0,0,0,0,ii,0,⟨#[]⟩⟩ ⟨2,s,ty,li,qt,ii,pr,tg⟩ = sm
 have HSM:=hide hsm
 clear hsm
 have hs1:(w.alloc (Obj.cells #[.int .i64 next,.slice a l.length cap] 32)).heap.size = w.heap.size + 1:=zf _ _
 have hs2:((w.alloc (Obj.cells #[.int .i64 next,.slice a l.length cap] 32)).alloc (Obj.cells #[.int .i64 2,.int .i64 s,.int .i64 ty,.int .i64 li,.int .i64 qt,.int .i64 ii,.float .f64 pr,.string tg] 37)).heap.size = w.heap.size + 1 + 1:=by rw [zf,hs1]
 have r1:=zg w [.int .i64 next,.slice a l.length cap] 32
 have r2:=zg (w.alloc (Obj.cells #[.int .i64 next,.slice a l.length cap] 32)) [.int .i64 2,.int .i64 s,.int .i64 ty,.int .i64 li,.int .i64 qt,.int .i64 ii,.float .f64 pr,.string tg] 37
 rw [hs1] at r2
 have b12:Below (w.heap.size + 1) (w.alloc (Obj.cells #[.int .i64 next,.slice a l.length cap] 32)) ((w.alloc (Obj.cells #[.int .i64 next,.slice a l.length cap] 32)).alloc (Obj.cells #[.int .i64 2,.int .i64 s,.int .i64 ty,.int .i64 li,.int .i64 qt,.int .i64 ii,.float .f64 pr,.string tg] 37)):=(Below.refl _ _).alloc (by rw [hs1]; omega) _
 have HB2:Hid (Below w.heap.size w ((w.alloc (Obj.cells #[.int .i64 next,.slice a l.length cap] 32)).alloc (Obj.cells #[.int .i64 2,.int .i64 s,.int .i64 ty,.int .i64 li,.int .i64 qt,.int .i64 ii,.float .f64 pr,.string tg] 37))):=((Below.refl _ _).alloc (Nat.le_refl _) _).alloc (by rw [hs1]; omega) _
 have HX:Hid (_∧_):=⟨zb r1 b12 (by omega),r2⟩
 have HLT:Hid (w.heap.size < ((w.alloc (Obj.cells #[.int .i64 next,.slice a l.length cap] 32)).alloc (Obj.cells #[.int .i64 2,.int .i64 s,.int .i64 ty,.int .i64 li,.int .i64 qt,.int .i64 ii,.float .f64 pr,.string tg] 37)).heap.size∧w.heap.size + 1 < ((w.alloc (Obj.cells #[.int .i64 next,.slice a l.length cap] 32)).alloc (Obj.cells #[.int .i64 2,.int .i64 s,.int .i64 ty,.int .i64 li,.int .i64 qt,.int .i64 ii,.float .f64 pr,.string tg] 37)).heap.size):=⟨by omega,by omega⟩
 clear hs1 hs2 r1 r2 b12
 go_enter Tryz.func79,Tryz.ntmps79
 refine wp_seq_k fun K hK=>?_
 have HK1:=hide hK
 clear hK
 go_wp2_with fail
 refine za HK1 _ _ ?_
 clear HK1
 generalize ((w.alloc (Obj.cells #[.int .i64 next,.slice a l.length cap] 32)).alloc (Obj.cells #[.int .i64 2,.int .i64 s,.int .i64 ty,.int .i64 li,.int .i64 qt,.int .i64 ii,.float .f64 pr,.string tg] 37)) = X2 at HB2 HX HLT ⊢
 have HX:Hid (X2.rangeAt w.heap.size 0 [.int .i64 next,.slice a l.length cap]∧X2.rangeAt (w.heap.size + 1) 0 [.int .i64 2,.int .i64 s,.int .i64 ty,.int .i64 li,.int .i64 qt,.int .i64 ii,.float .f64 pr,.string tg]):=za HX
 have o0:X2.cell? ⟨w.heap.size + 1,0,none⟩ = some (.int .i64 2):=(za HX).2 0 _ rfl
 have o1:X2.cell? ⟨w.heap.size + 1,1,none⟩ = some (.int .i64 s):=(za HX).2 1 _ rfl
 have o2:X2.cell? ⟨w.heap.size + 1,2,none⟩ = some (.int .i64 ty):=(za HX).2 2 _ rfl
 have o3:X2.cell? ⟨w.heap.size + 1,3,none⟩ = some (.int .i64 li):=(za HX).2 3 _ rfl
 have o4:X2.cell? ⟨w.heap.size + 1,4,none⟩ = some (.int .i64 qt):=(za HX).2 4 _ rfl
 have o5:X2.cell? ⟨w.heap.size + 1,5,none⟩ = some (.int .i64 ii):=(za HX).2 5 _ rfl
 have o6:X2.cell? ⟨w.heap.size + 1,6,none⟩ = some (.float .f64 pr):=(za HX).2 6 _ rfl
 have o7:X2.cell? ⟨w.heap.size + 1,7,none⟩ = some (.string tg):=(za HX).2 7 _ rfl
 go_wp2_with fail
 refine (zaf ⟨2,s,ty,li,qt,ii,pr,tg⟩ X2).mono ?_
 have hci:cmdI ⟨2,s,ty,li,qt,ii,pr,tg⟩ = .iface 131 (.agg #[.int .i64 ii]):=by simp [cmdI]
 rw [hci]
 clear hci
 rintro e w4 ⟨rfl,hb4⟩
 have HB4:=hide ((za HB2).trans (hb4.mono (za HB2).size))
 have HX4:Hid (w4.rangeAt w.heap.size 0 [.int .i64 next,.slice a l.length cap]∧w4.rangeAt (w.heap.size + 1) 0 [.int .i64 2,.int .i64 s,.int .i64 ty,.int .i64 li,.int .i64 qt,.int .i64 ii,.float .f64 pr,.string tg]∧w.heap.size < w4.heap.size∧w.heap.size + 1 < w4.heap.size):=⟨zb (za HX).1 hb4 (za HLT).1,zb (za HX).2 hb4 (za HLT).2,Nat.lt_of_lt_of_le (za HLT).1 hb4.size,Nat.lt_of_lt_of_le (za HLT).2 hb4.size⟩
 clear hb4 o0 o1 o2 o3 o4 o5 o6 o7
 go_wp2_with fail
 refine zj (RG w4 (fun f=>{ tmps:=#[.agg #[.int .i64 next,.slice a l.length cap],.agg #[.int .i64 2,.int .i64 s,.int .i64 ty,.int .i64 li,.int .i64 qt,.int .i64 ii,.float .f64 pr,.string tg],.pointer (some ⟨w.heap.size,0,none⟩),.pointer (some ⟨w.heap.size + 1,0,none⟩),.int .i64 0,.iface 131 (.agg #[.int .i64 ii]),undef,undef,undef,.agg #[.int .i64 2,.int .i64 s,.int .i64 ty,.int .i64 li,.int .i64 qt,.int .i64 ii,.float .f64 pr,.string tg],.iface 131 (.agg #[.int .i64 ii]),.iface 131 (.agg #[.int .i64 ii]),.bool false,f 0,f 1,f 2,f 3,f 4,undef,undef,undef,undef,undef,undef,undef,undef,undef,undef,undef,undef,undef,undef,undef,undef,undef,undef,undef,undef],defers:=[] }) 99 (DK (.iface 131 (.agg #[.int .i64 ii])) (cmV ⟨2,0,0,0,0,ii,0,⟨#[]⟩⟩) (.agg #[.int .i64 2,.int .i64 s,.int .i64 ty,.int .i64 li,.int .i64 qt,.int .i64 ii,.float .f64 pr,.string tg]) sm)) (by kernel_rfl) ?_ ?_ ?_
 ·exact ⟨fun _=>undef,rfl,⟨rfl,rfl,rfl,Nat.le_refl _,fun _ _=>rfl⟩,fun j hj=>by rw [List.getElem?_replicate] at hj; split at hj <;> simp at hj⟩
 ·rintro x A V ⟨f,rfl,hbel,hD⟩ hx hrd
  have hallx:=zS hrd hx (by kernel_rfl)
  have e4:f 4 = .bool (!sm):=hD 4 (hallx 4 (by simp))
  have HBV:=hide ((za HB4).trans (hbel.mono (za HB4).size))
  have z0:=zb (za HX4).1 hbel (za HX4).2.2.1 0 _ rfl
  have z1:=zb (za HX4).1 hbel (za HX4).2.2.1 1 _ rfl
  rw [Nat.zero_add] at z0 z1
  have ta1:∀ W:World,Sem.run Tryz.prog (Instr.typeAssert (.iface 131 (.agg #[.int .i64 ii])) 125 128 true) W = .ok (.tuple #[.agg #[.int .i64 0,.int .i64 0,.int .i64 0,.int .i64 0,.float .f64 0,.string ⟨#[]⟩],.bool false]) W:=fun W=>by kernel_rfl
  have ta2:∀ W:World,Sem.run Tryz.prog (Instr.typeAssert (.iface 131 (.agg #[.int .i64 ii])) 125 131 true) W = .ok (.tuple #[.agg #[.int .i64 ii],.bool true]) W:=fun W=>by kernel_rfl
  simp only [e4]
  generalize f 0 = e0
  generalize f 1 = e1
  generalize f 2 = e2
  generalize f 3 = e3
  clear hD hallx e4 hrd hx hbel f x
  cases sm
  ·go_wp2_with fail
   go_ret
   exact ⟨rfl,za HBV⟩
  ·have hlt:w.heap.size < V.heap.size:=World.block_lt_of_cell? V ⟨w.heap.size,0,none⟩ z0
   have y0:World.cell? (V.alloc (Obj.cells #[.int .i64 ii] 131)) ⟨w.heap.size,0,none⟩ = some (.int .i64 next):=(World.cell?_alloc_lt _ _ _ hlt).trans z0
   have y1:World.cell? (V.alloc (Obj.cells #[.int .i64 ii] 131)) ⟨w.heap.size,1,none⟩ = some (.slice a l.length cap):=(World.cell?_alloc_lt _ _ _ hlt).trans z1
   have HBA:Hid (Below w.heap.size w (V.alloc (Obj.cells #[.int .i64 ii] 131))):=(za HBV).alloc (za HBV).size _
   clear z0 z1 hlt
   go_wp2_with fail
   refine (idRefusal_any next _ l ii _ (zi (za HR) (za HBA) (Nat.le_refl _))).mono ?_
   rintro e w7 ⟨rfl,hb7⟩
   have HB7:=hide ((za HBA).trans (hb7.mono (za HBA).size))
   clear hb7
   go_wp2_with fail
   go_ret
   exact ⟨rfl,za HB7⟩
 ·rintro x A V i op ⟨f,rfl,hbel,hD⟩ hcl hx ho hxi hall
  clear hcl
  have HBV:=hide hbel
  have HD:=hide hD
  have u0:=zb (za HX4).2.1 hbel (za HX4).2.2.2 0 _ rfl
  have u1:=zb (za HX4).2.1 hbel (za HX4).2.2.2 1 _ rfl
  have u2:=zb (za HX4).2.1 hbel (za HX4).2.2.2 2 _ rfl
  have u3:=zb (za HX4).2.1 hbel (za HX4).2.2.2 3 _ rfl
  have u4:=zb (za HX4).2.1 hbel (za HX4).2.2.2 4 _ rfl
  have u5:=zb (za HX4).2.1 hbel (za HX4).2.2.2 5 _ rfl
  have u6:=zb (za HX4).2.1 hbel (za HX4).2.2.2 6 _ rfl
  have u7:=zb (za HX4).2.1 hbel (za HX4).2.2.2 7 _ rfl
  rw [Nat.zero_add] at u0 u1 u2 u3 u4 u5 u6 u7
  match i,ho with
  | 0,ho =>
   obtain rfl:=Option.some.inj ho
   clear hall hD hbel
   rw [if_pos (by rfl)]
   unfold Oper.wp
   go_simp
   exact ⟨upd f 0 (.iface 131 (.agg #[.int .i64 ii])),by simp [upd],ze (za HBV) (za HD) (by decide) rfl⟩
  | 1,ho =>
   obtain rfl:=Option.some.inj ho
   have g:f 0 = .iface 131 (.agg #[.int .i64 ii]):=hD 0 (hall ⟨0,.data⟩ (by simp) rfl)
   have hm:∀ W:World,Sem.run Tryz.prog (method 327 131 (.agg #[.int .i64 ii]) "loop.example/g00092/impl.told") W = .ok (174,.agg #[.int .i64 ii]) W:=fun W=>by kernel_rfl
   clear hall hD hbel
   rw [if_pos (by rfl)]
   unfold Oper.wp
   go_simp
   refine (toldCancel_any ii V).mono ?_
   rintro e w4 ⟨rfl,hb4⟩
   exact ⟨upd f 1 (cmV ⟨2,0,0,0,0,ii,0,⟨#[]⟩⟩),by simp [upd,g]; rfl,zai (za HBV) (za HD) hb4 (by decide) (fun j v h=>h) rfl⟩
  | 2,ho =>
   obtain rfl:=Option.some.inj ho
   clear hall hD hbel
   rw [if_pos (by rfl)]
   unfold Oper.wp
   go_simp
   exact ⟨upd f 2 (.agg #[.int .i64 2,.int .i64 s,.int .i64 ty,.int .i64 li,.int .i64 qt,.int .i64 ii,.float .f64 pr,.string tg]),by simp [upd],ze (za HBV) (za HD) (by decide) rfl⟩
  | 3,ho =>
   obtain rfl:=Option.some.inj ho
   have g1:f 1 = cmV ⟨2,0,0,0,0,ii,0,⟨#[]⟩⟩:=hD 1 (hall ⟨1,.data⟩ (by simp) rfl)
   have g2:f 2 = .agg #[.int .i64 2,.int .i64 s,.int .i64 ty,.int .i64 li,.int .i64 qt,.int .i64 ii,.float .f64 pr,.string tg]:=hD 2 (hall ⟨2,.data⟩ (by simp) rfl)
   clear hall hD hbel
   rw [if_pos (by rfl)]
   unfold Oper.wp
   go_simp
   refine (zbL ⟨2,0,0,0,0,ii,0,⟨#[]⟩⟩ ⟨2,s,ty,li,qt,ii,pr,tg⟩ V).mono ?_
   rw [za HSM]
   rintro e w4 ⟨rfl,hb4⟩
   exact ⟨upd f 3 (.bool sm),by simp [upd,g1,g2],zai (za HBV) (za HD) hb4 (by decide) (fun j v h=>h) rfl⟩
  | 4,ho =>
   obtain rfl:=Option.some.inj ho
   have g:f 3 = .bool sm:=hD 3 (hall ⟨3,.data⟩ (by simp) rfl)
   clear hall hD hbel
   rw [if_pos (by rfl)]
   unfold Oper.wp
   go_simp
   exact ⟨upd f 4 (.bool (!sm)),by simp [upd,g],ze (za HBV) (za HD) (by decide) rfl⟩
  | n + 5,ho=>simp at ho
set_option maxRecDepth 100000 in
set_option maxHeartbeats 1600000 in
theorem refusal_3 (next:Int) (vb:Value) (l:List Od) (s ty li qt ii:Int) (pr:Nat) (tg:ByteArray) (w:World) (hr:RdR Od.vs 6 w vb l) (hs:SlOk vb) (hg:GoodL l) (h0:0 ≤ next) (h1:next ≤ 1000000) (ht:tg.size ≤ maxLen) :
  Calls Tryz.prog 79 #[.agg #[.int .i64 next,vb],.agg #[.int .i64 3,.int .i64 s,.int .i64 ty,.int .i64 li,.int .i64 qt,.int .i64 ii,.float .f64 pr,.string tg]] w fun e w'=>e = .returned (.int .i64 (if zaB ⟨3,0,0,0,qt,ii,0,⟨#[]⟩⟩ ⟨3,s,ty,li,qt,ii,pr,tg⟩ = true then redR l ii qt else 2))∧Below w.heap.size w w':=by
 have HR:=hide hr
 have HG:=hide hg
 have HSL:=hide hs
 have HNUM:Hid (0 ≤ next∧next ≤ 1000000):=⟨h0,h1⟩
 have HTG:=hide ht
 obtain ⟨a,cap,rfl,hlen,hc⟩:=hr
 clear hc hg hs h0 h1 ht hlen
 generalize hsm:zaB ⟨3,0,0,0,qt,ii,0,⟨#[]⟩⟩ ⟨3,s,ty,li,qt,ii,pr,tg⟩ = sm
 have HSM:=hide hsm
 clear hsm
 have hs1:(w.alloc (Obj.cells #[.int .i64 next,.slice a l.length cap] 32)).heap.size = w.heap.size + 1:=zf _ _
 have hs2:((w.alloc (Obj.cells #[.int .i64 next,.slice a l.length cap] 32)).alloc (Obj.cells #[.int .i64 3,.int .i64 s,.int .i64 ty,.int .i64 li,.int .i64 qt,.int .i64 ii,.float .f64 pr,.string tg] 37)).heap.size = w.heap.size + 1 + 1:=by rw [zf,hs1]
 have r1:=zg w [.int .i64 next,.slice a l.length cap] 32
 have r2:=zg (w.alloc (Obj.cells #[.int .i64 next,.slice a l.length cap] 32)) [.int .i64 3,.int .i64 s,.int .i64 ty,.int .i64 li,.int .i64 qt,.int .i64 ii,.float .f64 pr,.string tg] 37
 rw [hs1] at r2
 have b12:Below (w.heap.size + 1) (w.alloc (Obj.cells #[.int .i64 next,.slice a l.length cap] 32)) ((w.alloc (Obj.cells #[.int .i64 next,.slice a l.length cap] 32)).alloc (Obj.cells #[.int .i64 3,.int .i64 s,.int .i64 ty,.int .i64 li,.int .i64 qt,.int .i64 ii,.float .f64 pr,.string tg] 37)):=(Below.refl _ _).alloc (by rw [hs1]; omega) _
 have HB2:Hid (Below w.heap.size w ((w.alloc (Obj.cells #[.int .i64 next,.slice a l.length cap] 32)).alloc (Obj.cells #[.int .i64 3,.int .i64 s,.int .i64 ty,.int .i64 li,.int .i64 qt,.int .i64 ii,.float .f64 pr,.string tg] 37))):=((Below.refl _ _).alloc (Nat.le_refl _) _).alloc (by rw [hs1]; omega) _
 have HX:Hid (_∧_):=⟨zb r1 b12 (by omega),r2⟩
 have HLT:Hid (w.heap.size < ((w.alloc (Obj.cells #[.int .i64 next,.slice a l.length cap] 32)).alloc (Obj.cells #[.int .i64 3,.int .i64 s,.int .i64 ty,.int .i64 li,.int .i64 qt,.int .i64 ii,.float .f64 pr,.string tg] 37)).heap.size∧w.heap.size + 1 < ((w.alloc (Obj.cells #[.int .i64 next,.slice a l.length cap] 32)).alloc (Obj.cells #[.int .i64 3,.int .i64 s,.int .i64 ty,.int .i64 li,.int .i64 qt,.int .i64 ii,.float .f64 pr,.string tg] 37)).heap.size):=⟨by omega,by omega⟩
 clear hs1 hs2 r1 r2 b12
 go_enter Tryz.func79,Tryz.ntmps79
 refine wp_seq_k fun K hK=>?_
 have HK1:=hide hK
 clear hK
 go_wp2_with fail
 refine za HK1 _ _ ?_
 clear HK1
 generalize ((w.alloc (Obj.cells #[.int .i64 next,.slice a l.length cap] 32)).alloc (Obj.cells #[.int .i64 3,.int .i64 s,.int .i64 ty,.int .i64 li,.int .i64 qt,.int .i64 ii,.float .f64 pr,.string tg] 37)) = X2 at HB2 HX HLT ⊢
 have HX:Hid (X2.rangeAt w.heap.size 0 [.int .i64 next,.slice a l.length cap]∧X2.rangeAt (w.heap.size + 1) 0 [.int .i64 3,.int .i64 s,.int .i64 ty,.int .i64 li,.int .i64 qt,.int .i64 ii,.float .f64 pr,.string tg]):=za HX
 have o0:X2.cell? ⟨w.heap.size + 1,0,none⟩ = some (.int .i64 3):=(za HX).2 0 _ rfl
 have o1:X2.cell? ⟨w.heap.size + 1,1,none⟩ = some (.int .i64 s):=(za HX).2 1 _ rfl
 have o2:X2.cell? ⟨w.heap.size + 1,2,none⟩ = some (.int .i64 ty):=(za HX).2 2 _ rfl
 have o3:X2.cell? ⟨w.heap.size + 1,3,none⟩ = some (.int .i64 li):=(za HX).2 3 _ rfl
 have o4:X2.cell? ⟨w.heap.size + 1,4,none⟩ = some (.int .i64 qt):=(za HX).2 4 _ rfl
 have o5:X2.cell? ⟨w.heap.size + 1,5,none⟩ = some (.int .i64 ii):=(za HX).2 5 _ rfl
 have o6:X2.cell? ⟨w.heap.size + 1,6,none⟩ = some (.float .f64 pr):=(za HX).2 6 _ rfl
 have o7:X2.cell? ⟨w.heap.size + 1,7,none⟩ = some (.string tg):=(za HX).2 7 _ rfl
 go_wp2_with fail
 refine (zaf ⟨3,s,ty,li,qt,ii,pr,tg⟩ X2).mono ?_
 have hci:cmdI ⟨3,s,ty,li,qt,ii,pr,tg⟩ = .iface 134 (.agg #[.int .i64 ii,.int .i64 qt]):=by simp [cmdI]
 rw [hci]
 clear hci
 rintro e w4 ⟨rfl,hb4⟩
 have HB4:=hide ((za HB2).trans (hb4.mono (za HB2).size))
 have HX4:Hid (w4.rangeAt w.heap.size 0 [.int .i64 next,.slice a l.length cap]∧w4.rangeAt (w.heap.size + 1) 0 [.int .i64 3,.int .i64 s,.int .i64 ty,.int .i64 li,.int .i64 qt,.int .i64 ii,.float .f64 pr,.string tg]∧w.heap.size < w4.heap.size∧w.heap.size + 1 < w4.heap.size):=⟨zb (za HX).1 hb4 (za HLT).1,zb (za HX).2 hb4 (za HLT).2,Nat.lt_of_lt_of_le (za HLT).1 hb4.size,Nat.lt_of_lt_of_le (za HLT).2 hb4.size⟩
 clear hb4 o0 o1 o2 o3 o4 o5 o6 o7
 go_wp2_with fail
 refine zj (RG w4 (fun f=>{ tmps:=#[.agg #[.int .i64 next,.slice a l.length cap],.agg #[.int .i64 3,.int .i64 s,.int .i64 ty,.int .i64 li,.int .i64 qt,.int .i64 ii,.float .f64 pr,.string tg],.pointer (some ⟨w.heap.size,0,none⟩),.pointer (some ⟨w.heap.size + 1,0,none⟩),.int .i64 0,.iface 134 (.agg #[.int .i64 ii,.int .i64 qt]),undef,undef,undef,.agg #[.int .i64 3,.int .i64 s,.int .i64 ty,.int .i64 li,.int .i64 qt,.int .i64 ii,.float .f64 pr,.string tg],.iface 134 (.agg #[.int .i64 ii,.int .i64 qt]),.iface 134 (.agg #[.int .i64 ii,.int .i64 qt]),.bool false,f 0,f 1,f 2,f 3,f 4,undef,undef,undef,undef,undef,undef,undef,undef,undef,undef,undef,undef,undef,undef,undef,undef,undef,undef,undef,undef],defers:=[] }) 99 (DK (.iface 134 (.agg #[.int .i64 ii,.int .i64 qt])) (cmV ⟨3,0,0,0,qt,ii,0,⟨#[]⟩⟩) (.agg #[.int .i64 3,.int .i64 s,.int .i64 ty,.int .i64 li,.int .i64 qt,.int .i64 ii,.float .f64 pr,.string tg]) sm)) (by kernel_rfl) ?_ ?_ ?_
 ·exact ⟨fun _=>undef,rfl,⟨rfl,rfl,rfl,Nat.le_refl _,fun _ _=>rfl⟩,fun j hj=>by rw [List.getElem?_replicate] at hj; split at hj <;> simp at hj⟩
 ·rintro x A V ⟨f,rfl,hbel,hD⟩ hx hrd
  have hallx:=zS hrd hx (by kernel_rfl)
  have e4:f 4 = .bool (!sm):=hD 4 (hallx 4 (by simp))
  have HBV:=hide ((za HB4).trans (hbel.mono (za HB4).size))
  have z0:=zb (za HX4).1 hbel (za HX4).2.2.1 0 _ rfl
  have z1:=zb (za HX4).1 hbel (za HX4).2.2.1 1 _ rfl
  rw [Nat.zero_add] at z0 z1
  have ta1:∀ W:World,Sem.run Tryz.prog (Instr.typeAssert (.iface 134 (.agg #[.int .i64 ii,.int .i64 qt])) 125 128 true) W = .ok (.tuple #[.agg #[.int .i64 0,.int .i64 0,.int .i64 0,.int .i64 0,.float .f64 0,.string ⟨#[]⟩],.bool false]) W:=fun W=>by kernel_rfl
  have ta2:∀ W:World,Sem.run Tryz.prog (Instr.typeAssert (.iface 134 (.agg #[.int .i64 ii,.int .i64 qt])) 125 131 true) W = .ok (.tuple #[.agg #[.int .i64 0],.bool false]) W:=fun W=>by kernel_rfl
  have ta3:∀ W:World,Sem.run Tryz.prog (Instr.typeAssert (.iface 134 (.agg #[.int .i64 ii,.int .i64 qt])) 125 134 true) W = .ok (.tuple #[.agg #[.int .i64 ii,.int .i64 qt],.bool true]) W:=fun W=>by kernel_rfl
  simp only [e4]
  generalize f 0 = e0
  generalize f 1 = e1
  generalize f 2 = e2
  generalize f 3 = e3
  clear hD hallx e4 hrd hx hbel f x
  cases sm
  ·go_wp2_with fail
   go_ret
   exact ⟨rfl,za HBV⟩
  ·have hlt:w.heap.size < V.heap.size:=World.block_lt_of_cell? V ⟨w.heap.size,0,none⟩ z0
   have y0:World.cell? (V.alloc (Obj.cells #[.int .i64 ii,.int .i64 qt] 134)) ⟨w.heap.size,0,none⟩ = some (.int .i64 next):=(World.cell?_alloc_lt _ _ _ hlt).trans z0
   have y1:World.cell? (V.alloc (Obj.cells #[.int .i64 ii,.int .i64 qt] 134)) ⟨w.heap.size,1,none⟩ = some (.slice a l.length cap):=(World.cell?_alloc_lt _ _ _ hlt).trans z1
   have HBA:Hid (Below w.heap.size w (V.alloc (Obj.cells #[.int .i64 ii,.int .i64 qt] 134))):=(za HBV).alloc (za HBV).size _
   clear z0 z1 hlt
   go_wp2_with fail
   refine (reduceRefusal_any next _ l ii qt _ (zi (za HR) (za HBA) (Nat.le_refl _))).mono ?_
   rintro e w7 ⟨rfl,hb7⟩
   have HB7:=hide ((za HBA).trans (hb7.mono (za HBA).size))
   clear hb7
   go_wp2_with fail
   go_ret
   exact ⟨rfl,za HB7⟩
 ·rintro x A V i op ⟨f,rfl,hbel,hD⟩ hcl hx ho hxi hall
  clear hcl
  have HBV:=hide hbel
  have HD:=hide hD
  have u0:=zb (za HX4).2.1 hbel (za HX4).2.2.2 0 _ rfl
  have u1:=zb (za HX4).2.1 hbel (za HX4).2.2.2 1 _ rfl
  have u2:=zb (za HX4).2.1 hbel (za HX4).2.2.2 2 _ rfl
  have u3:=zb (za HX4).2.1 hbel (za HX4).2.2.2 3 _ rfl
  have u4:=zb (za HX4).2.1 hbel (za HX4).2.2.2 4 _ rfl
  have u5:=zb (za HX4).2.1 hbel (za HX4).2.2.2 5 _ rfl
  have u6:=zb (za HX4).2.1 hbel (za HX4).2.2.2 6 _ rfl
  have u7:=zb (za HX4).2.1 hbel (za HX4).2.2.2 7 _ rfl
  rw [Nat.zero_add] at u0 u1 u2 u3 u4 u5 u6 u7
  match i,ho with
  | 0,ho =>
   obtain rfl:=Option.some.inj ho
   clear hall hD hbel
   rw [if_pos (by rfl)]
   unfold Oper.wp
   go_simp
   exact ⟨upd f 0 (.iface 134 (.agg #[.int .i64 ii,.int .i64 qt])),by simp [upd],ze (za HBV) (za HD) (by decide) rfl⟩
  | 1,ho =>
   obtain rfl:=Option.some.inj ho
   have g:f 0 = .iface 134 (.agg #[.int .i64 ii,.int .i64 qt]):=hD 0 (hall ⟨0,.data⟩ (by simp) rfl)
   have hm:∀ W:World,Sem.run Tryz.prog (method 327 134 (.agg #[.int .i64 ii,.int .i64 qt]) "loop.example/g00092/impl.told") W = .ok (175,.agg #[.int .i64 ii,.int .i64 qt]) W:=fun W=>by kernel_rfl
   clear hall hD hbel
   rw [if_pos (by rfl)]
   unfold Oper.wp
   go_simp
   refine (toldReduce_any ii qt V).mono ?_
   rintro e w4 ⟨rfl,hb4⟩
   exact ⟨upd f 1 (cmV ⟨3,0,0,0,qt,ii,0,⟨#[]⟩⟩),by simp [upd,g]; rfl,zai (za HBV) (za HD) hb4 (by decide) (fun j v h=>h) rfl⟩
  | 2,ho =>
   obtain rfl:=Option.some.inj ho
   clear hall hD hbel
   rw [if_pos (by rfl)]
   unfold Oper.wp
   go_simp
   exact ⟨upd f 2 (.agg #[.int .i64 3,.int .i64 s,.int .i64 ty,.int .i64 li,.int .i64 qt,.int .i64 ii,.float .f64 pr,.string tg]),by simp [upd],ze (za HBV) (za HD) (by decide) rfl⟩
  | 3,ho =>
   obtain rfl:=Option.some.inj ho
   have g1:f 1 = cmV ⟨3,0,0,0,qt,ii,0,⟨#[]⟩⟩:=hD 1 (hall ⟨1,.data⟩ (by simp) rfl)
   have g2:f 2 = .agg #[.int .i64 3,.int .i64 s,.int .i64 ty,.int .i64 li,.int .i64 qt,.int .i64 ii,.float .f64 pr,.string tg]:=hD 2 (hall ⟨2,.data⟩ (by simp) rfl)
   clear hall hD hbel
   rw [if_pos (by rfl)]
   unfold Oper.wp
   go_simp
   refine (zbL ⟨3,0,0,0,qt,ii,0,⟨#[]⟩⟩ ⟨3,s,ty,li,qt,ii,pr,tg⟩ V).mono ?_
   rw [za HSM]
   rintro e w4 ⟨rfl,hb4⟩
   exact ⟨upd f 3 (.bool sm),by simp [upd,g1,g2],zai (za HBV) (za HD) hb4 (by decide) (fun j v h=>h) rfl⟩
  | 4,ho =>
   obtain rfl:=Option.some.inj ho
   have g:f 3 = .bool sm:=hD 3 (hall ⟨3,.data⟩ (by simp) rfl)
   clear hall hD hbel
   rw [if_pos (by rfl)]
   unfold Oper.wp
   go_simp
   exact ⟨upd f 4 (.bool (!sm)),by simp [upd,g],ze (za HBV) (za HD) (by decide) rfl⟩
  | n + 5,ho=>simp at ho
set_option maxRecDepth 100000 in
set_option maxHeartbeats 1600000 in
theorem refusal_4 (next:Int) (vb:Value) (l:List Od) (s ty li qt ii:Int) (pr:Nat) (tg:ByteArray) (w:World) (hr:RdR Od.vs 6 w vb l) (hs:SlOk vb) (hg:GoodL l) (h0:0 ≤ next) (h1:next ≤ 1000000) (ht:tg.size ≤ maxLen) :
  Calls Tryz.prog 79 #[.agg #[.int .i64 next,vb],.agg #[.int .i64 4,.int .i64 s,.int .i64 ty,.int .i64 li,.int .i64 qt,.int .i64 ii,.float .f64 pr,.string tg]] w fun e w'=>e = .returned (.int .i64 (if zaB ⟨4,0,0,0,0,0,0,⟨#[]⟩⟩ ⟨4,s,ty,li,qt,ii,pr,tg⟩ = true then 0 else 2))∧Below w.heap.size w w':=by
 have HR:=hide hr
 have HG:=hide hg
 have HSL:=hide hs
 have HNUM:Hid (0 ≤ next∧next ≤ 1000000):=⟨h0,h1⟩
 have HTG:=hide ht
 obtain ⟨a,cap,rfl,hlen,hc⟩:=hr
 clear hc hg hs h0 h1 ht hlen
 generalize hsm:zaB ⟨4,0,0,0,0,0,0,⟨#[]⟩⟩ ⟨4,s,ty,li,qt,ii,pr,tg⟩ = sm
 have HSM:=hide hsm
 clear hsm
 have hs1:(w.alloc (Obj.cells #[.int .i64 next,.slice a l.length cap] 32)).heap.size = w.heap.size + 1:=zf _ _
 have hs2:((w.alloc (Obj.cells #[.int .i64 next,.slice a l.length cap] 32)).alloc (Obj.cells #[.int .i64 4,.int .i64 s,.int .i64 ty,.int .i64 li,.int .i64 qt,.int .i64 ii,.float .f64 pr,.string tg] 37)).heap.size = w.heap.size + 1 + 1:=by rw [zf,hs1]
 have r1:=zg w [.int .i64 next,.slice a l.length cap] 32
 have r2:=zg (w.alloc (Obj.cells #[.int .i64 next,.slice a l.length cap] 32)) [.int .i64 4,.int .i64 s,.int .i64 ty,.int .i64 li,.int .i64 qt,.int .i64 ii,.float .f64 pr,.string tg] 37
 rw [hs1] at r2
 have b12:Below (w.heap.size + 1) (w.alloc (Obj.cells #[.int .i64 next,.slice a l.length cap] 32)) ((w.alloc (Obj.cells #[.int .i64 next,.slice a l.length cap] 32)).alloc (Obj.cells #[.int .i64 4,.int .i64 s,.int .i64 ty,.int .i64 li,.int .i64 qt,.int .i64 ii,.float .f64 pr,.string tg] 37)):=(Below.refl _ _).alloc (by rw [hs1]; omega) _
 have HB2:Hid (Below w.heap.size w ((w.alloc (Obj.cells #[.int .i64 next,.slice a l.length cap] 32)).alloc (Obj.cells #[.int .i64 4,.int .i64 s,.int .i64 ty,.int .i64 li,.int .i64 qt,.int .i64 ii,.float .f64 pr,.string tg] 37))):=((Below.refl _ _).alloc (Nat.le_refl _) _).alloc (by rw [hs1]; omega) _
 have HX:Hid (_∧_):=⟨zb r1 b12 (by omega),r2⟩
 have HLT:Hid (w.heap.size < ((w.alloc (Obj.cells #[.int .i64 next,.slice a l.length cap] 32)).alloc (Obj.cells #[.int .i64 4,.int .i64 s,.int .i64 ty,.int .i64 li,.int .i64 qt,.int .i64 ii,.float .f64 pr,.string tg] 37)).heap.size∧w.heap.size + 1 < ((w.alloc (Obj.cells #[.int .i64 next,.slice a l.length cap] 32)).alloc (Obj.cells #[.int .i64 4,.int .i64 s,.int .i64 ty,.int .i64 li,.int .i64 qt,.int .i64 ii,.float .f64 pr,.string tg] 37)).heap.size):=⟨by omega,by omega⟩
 clear hs1 hs2 r1 r2 b12
 go_enter Tryz.func79,Tryz.ntmps79
 refine wp_seq_k fun K hK=>?_
 have HK1:=hide hK
 clear hK
 go_wp2_with fail
 refine za HK1 _ _ ?_
 clear HK1
 generalize ((w.alloc (Obj.cells #[.int .i64 next,.slice a l.length cap] 32)).alloc (Obj.cells #[.int .i64 4,.int .i64 s,.int .i64 ty,.int .i64 li,.int .i64 qt,.int .i64 ii,.float .f64 pr,.string tg] 37)) = X2 at HB2 HX HLT ⊢
 have HX:Hid (X2.rangeAt w.heap.size 0 [.int .i64 next,.slice a l.length cap]∧X2.rangeAt (w.heap.size + 1) 0 [.int .i64 4,.int .i64 s,.int .i64 ty,.int .i64 li,.int .i64 qt,.int .i64 ii,.float .f64 pr,.string tg]):=za HX
 have o0:X2.cell? ⟨w.heap.size + 1,0,none⟩ = some (.int .i64 4):=(za HX).2 0 _ rfl
 have o1:X2.cell? ⟨w.heap.size + 1,1,none⟩ = some (.int .i64 s):=(za HX).2 1 _ rfl
 have o2:X2.cell? ⟨w.heap.size + 1,2,none⟩ = some (.int .i64 ty):=(za HX).2 2 _ rfl
 have o3:X2.cell? ⟨w.heap.size + 1,3,none⟩ = some (.int .i64 li):=(za HX).2 3 _ rfl
 have o4:X2.cell? ⟨w.heap.size + 1,4,none⟩ = some (.int .i64 qt):=(za HX).2 4 _ rfl
 have o5:X2.cell? ⟨w.heap.size + 1,5,none⟩ = some (.int .i64 ii):=(za HX).2 5 _ rfl
 have o6:X2.cell? ⟨w.heap.size + 1,6,none⟩ = some (.float .f64 pr):=(za HX).2 6 _ rfl
 have o7:X2.cell? ⟨w.heap.size + 1,7,none⟩ = some (.string tg):=(za HX).2 7 _ rfl
 go_wp2_with fail
 refine (zaf ⟨4,s,ty,li,qt,ii,pr,tg⟩ X2).mono ?_
 have hci:cmdI ⟨4,s,ty,li,qt,ii,pr,tg⟩ = .iface 137 (.agg #[]):=by simp [cmdI]
 rw [hci]
 clear hci
 rintro e w4 ⟨rfl,hb4⟩
 have HB4:=hide ((za HB2).trans (hb4.mono (za HB2).size))
 have HX4:Hid (w4.rangeAt w.heap.size 0 [.int .i64 next,.slice a l.length cap]∧w4.rangeAt (w.heap.size + 1) 0 [.int .i64 4,.int .i64 s,.int .i64 ty,.int .i64 li,.int .i64 qt,.int .i64 ii,.float .f64 pr,.string tg]∧w.heap.size < w4.heap.size∧w.heap.size + 1 < w4.heap.size):=⟨zb (za HX).1 hb4 (za HLT).1,zb (za HX).2 hb4 (za HLT).2,Nat.lt_of_lt_of_le (za HLT).1 hb4.size,Nat.lt_of_lt_of_le (za HLT).2 hb4.size⟩
 clear hb4 o0 o1 o2 o3 o4 o5 o6 o7
 go_wp2_with fail
 refine zj (RG w4 (fun f=>{ tmps:=#[.agg #[.int .i64 next,.slice a l.length cap],.agg #[.int .i64 4,.int .i64 s,.int .i64 ty,.int .i64 li,.int .i64 qt,.int .i64 ii,.float .f64 pr,.string tg],.pointer (some ⟨w.heap.size,0,none⟩),.pointer (some ⟨w.heap.size + 1,0,none⟩),.int .i64 0,.iface 137 (.agg #[]),undef,undef,undef,.agg #[.int .i64 4,.int .i64 s,.int .i64 ty,.int .i64 li,.int .i64 qt,.int .i64 ii,.float .f64 pr,.string tg],.iface 137 (.agg #[]),.iface 137 (.agg #[]),.bool false,f 0,f 1,f 2,f 3,f 4,undef,undef,undef,undef,undef,undef,undef,undef,undef,undef,undef,undef,undef,undef,undef,undef,undef,undef,undef,undef],defers:=[] }) 99 (DK (.iface 137 (.agg #[])) (cmV ⟨4,0,0,0,0,0,0,⟨#[]⟩⟩) (.agg #[.int .i64 4,.int .i64 s,.int .i64 ty,.int .i64 li,.int .i64 qt,.int .i64 ii,.float .f64 pr,.string tg]) sm)) (by kernel_rfl) ?_ ?_ ?_
 ·exact ⟨fun _=>undef,rfl,⟨rfl,rfl,rfl,Nat.le_refl _,fun _ _=>rfl⟩,fun j hj=>by rw [List.getElem?_replicate] at hj; split at hj <;> simp at hj⟩
 ·rintro x A V ⟨f,rfl,hbel,hD⟩ hx hrd
  have hallx:=zS hrd hx (by kernel_rfl)
  have e4:f 4 = .bool (!sm):=hD 4 (hallx 4 (by simp))
  have HBV:=hide ((za HB4).trans (hbel.mono (za HB4).size))
  have z0:=zb (za HX4).1 hbel (za HX4).2.2.1 0 _ rfl
  have z1:=zb (za HX4).1 hbel (za HX4).2.2.1 1 _ rfl
  rw [Nat.zero_add] at z0 z1
  have ta1:∀ W:World,Sem.run Tryz.prog (Instr.typeAssert (.iface 137 (.agg #[])) 125 128 true) W = .ok (.tuple #[.agg #[.int .i64 0,.int .i64 0,.int .i64 0,.int .i64 0,.float .f64 0,.string ⟨#[]⟩],.bool false]) W:=fun W=>by kernel_rfl
  have ta2:∀ W:World,Sem.run Tryz.prog (Instr.typeAssert (.iface 137 (.agg #[])) 125 131 true) W = .ok (.tuple #[.agg #[.int .i64 0],.bool false]) W:=fun W=>by kernel_rfl
  have ta3:∀ W:World,Sem.run Tryz.prog (Instr.typeAssert (.iface 137 (.agg #[])) 125 134 true) W = .ok (.tuple #[.agg #[.int .i64 0,.int .i64 0],.bool false]) W:=fun W=>by kernel_rfl
  simp only [e4]
  generalize f 0 = e0
  generalize f 1 = e1
  generalize f 2 = e2
  generalize f 3 = e3
  clear hD hallx e4 hrd hx hbel f x
  cases sm
  ·go_wp2_with fail
   go_ret
   exact ⟨rfl,za HBV⟩
  ·go_wp2_with fail
   go_ret
   exact ⟨rfl,za HBV⟩
 ·rintro x A V i op ⟨f,rfl,hbel,hD⟩ hcl hx ho hxi hall
  clear hcl
  have HBV:=hide hbel
  have HD:=hide hD
  have u0:=zb (za HX4).2.1 hbel (za HX4).2.2.2 0 _ rfl
  have u1:=zb (za HX4).2.1 hbel (za HX4).2.2.2 1 _ rfl
  have u2:=zb (za HX4).2.1 hbel (za HX4).2.2.2 2 _ rfl
  have u3:=zb (za HX4).2.1 hbel (za HX4).2.2.2 3 _ rfl
  have u4:=zb (za HX4).2.1 hbel (za HX4).2.2.2 4 _ rfl
  have u5:=zb (za HX4).2.1 hbel (za HX4).2.2.2 5 _ rfl
  have u6:=zb (za HX4).2.1 hbel (za HX4).2.2.2 6 _ rfl
  have u7:=zb (za HX4).2.1 hbel (za HX4).2.2.2 7 _ rfl
  rw [Nat.zero_add] at u0 u1 u2 u3 u4 u5 u6 u7
  match i,ho with
  | 0,ho =>
   obtain rfl:=Option.some.inj ho
   clear hall hD hbel
   rw [if_pos (by rfl)]
   unfold Oper.wp
   go_simp
   exact ⟨upd f 0 (.iface 137 (.agg #[])),by simp [upd],ze (za HBV) (za HD) (by decide) rfl⟩
  | 1,ho =>
   obtain rfl:=Option.some.inj ho
   have g:f 0 = .iface 137 (.agg #[]):=hD 0 (hall ⟨0,.data⟩ (by simp) rfl)
   have hm:∀ W:World,Sem.run Tryz.prog (method 327 137 (.agg #[]) "loop.example/g00092/impl.told") W = .ok (176,.agg #[]) W:=fun W=>by kernel_rfl
   clear hall hD hbel
   rw [if_pos (by rfl)]
   unfold Oper.wp
   go_simp
   refine (toldDay_any V).mono ?_
   rintro e w4 ⟨rfl,hb4⟩
   exact ⟨upd f 1 (cmV ⟨4,0,0,0,0,0,0,⟨#[]⟩⟩),by simp [upd,g]; rfl,zai (za HBV) (za HD) hb4 (by decide) (fun j v h=>h) rfl⟩
  | 2,ho =>
   obtain rfl:=Option.some.inj ho
   clear hall hD hbel
   rw [if_pos (by rfl)]
   unfold Oper.wp
   go_simp
   exact ⟨upd f 2 (.agg #[.int .i64 4,.int .i64 s,.int .i64 ty,.int .i64 li,.int .i64 qt,.int .i64 ii,.float .f64 pr,.string tg]),by simp [upd],ze (za HBV) (za HD) (by decide) rfl⟩
  | 3,ho =>
   obtain rfl:=Option.some.inj ho
   have g1:f 1 = cmV ⟨4,0,0,0,0,0,0,⟨#[]⟩⟩:=hD 1 (hall ⟨1,.data⟩ (by simp) rfl)
   have g2:f 2 = .agg #[.int .i64 4,.int .i64 s,.int .i64 ty,.int .i64 li,.int .i64 qt,.int .i64 ii,.float .f64 pr,.string tg]:=hD 2 (hall ⟨2,.data⟩ (by simp) rfl)
   clear hall hD hbel
   rw [if_pos (by rfl)]
   unfold Oper.wp
   go_simp
   refine (zbL ⟨4,0,0,0,0,0,0,⟨#[]⟩⟩ ⟨4,s,ty,li,qt,ii,pr,tg⟩ V).mono ?_
   rw [za HSM]
   rintro e w4 ⟨rfl,hb4⟩
   exact ⟨upd f 3 (.bool sm),by simp [upd,g1,g2],zai (za HBV) (za HD) hb4 (by decide) (fun j v h=>h) rfl⟩
  | 4,ho =>
   obtain rfl:=Option.some.inj ho
   have g:f 3 = .bool sm:=hD 3 (hall ⟨3,.data⟩ (by simp) rfl)
   clear hall hD hbel
   rw [if_pos (by rfl)]
   unfold Oper.wp
   go_simp
   exact ⟨upd f 4 (.bool (!sm)),by simp [upd,g],ze (za HBV) (za HD) (by decide) rfl⟩
  | n + 5,ho=>simp at ho
end Go.Proofs.YtdfihaabhichdaaGreat
