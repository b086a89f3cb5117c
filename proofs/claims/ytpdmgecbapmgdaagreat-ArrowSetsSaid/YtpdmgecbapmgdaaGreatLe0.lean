/- Ground of proofs about package arrow: it says nothing by itself, without a condition. -/
import Derived.Test.YtpdmgecbapmgdaaGreatCx6
import Derived.KernelRfl
import Derived.Test.YtpdmgecbapmgdaaGreatProg
import Derived.Test.YtpdmgecbapmgdaaGreatCx9
import Derived.Conc.WgGenN3
set_option maxRecDepth 100000
section
open Go Go.Cx
namespace Go.Proofs.Tryz
def lf{α:Type}(x:α):T α:=.n .e (some x) .e
noncomputable def typesT:T TypeInfo:=(.n (.n (.n (.n (.n (.n (.n (lf t127) (some t63) (lf t191)) (some t31) (.n (lf t159) (some t95) (lf t223))) (some t15) (.n (.n (lf t143) (some t79) (lf t207)) (some t47) (.n (lf t175) (some t111) .e))) (some t7) (.n (.n (.n (lf t135) (some t71) (lf t199)) (some t39) (.n (lf t167) (some t103) .e)) (some t23) (.n (.n (lf t151) (some t87) (lf t215)) (some t55) (.n (lf t183) (some t119) .e)))) (some t3) (.n (.n (.n (.n (lf t131) (some t67) (lf t195)) (some t35) (.n (lf t163) (some t99) (lf t227))) (some t19) (.n (.n (lf t147) (some t83) (lf t211)) (some t51) (.n (lf t179) (some t115) .e))) (some t11) (.n (.n (.n (lf t139) (some t75) (lf t203)) (some t43) (.n (lf t171) (some t107) .e)) (some t27) (.n (.n (lf t155) (some t91) (lf t219)) (some t59) (.n (lf t187) (some t123) .e))))) (some t1) (.n (.n (.n (.n (.n (lf t129) (some t65) (lf t193)) (some t33) (.n (lf t161) (some t97) (lf t225))) (some t17) (.n (.n (lf t145) (some t81) (lf t209)) (some t49) (.n (lf t177) (some t113) .e))) (some t9) (.n (.n (.n (lf t137) (some t73) (lf t201)) (some t41) (.n (lf t169) (some t105) .e)) (some t25) (.n (.n (lf t153) (some t89) (lf t217)) (some t57) (.n (lf t185) (some t121) .e)))) (some t5) (.n (.n (.n (.n (lf t133) (some t69) (lf t197)) (some t37) (.n (lf t165) (some t101) (lf t229))) (some t21) (.n (.n (lf t149) (some t85) (lf t213)) (some t53) (.n (lf t181) (some t117) .e))) (some t13) (.n (.n (.n (lf t141) (some t77) (lf t205)) (some t45) (.n (lf t173) (some t109) .e)) (some t29) (.n (.n (lf t157) (some t93) (lf t221)) (some t61) (.n (lf t189) (some t125) .e)))))) (some t0) (.n (.n (.n (.n (.n (.n (lf t128) (some t64) (lf t192)) (some t32) (.n (lf t160) (some t96) (lf t224))) (some t16) (.n (.n (lf t144) (some t80) (lf t208)) (some t48) (.n (lf t176) (some t112) .e))) (some t8) (.n (.n (.n (lf t136) (some t72) (lf t200)) (some t40) (.n (lf t168) (some t104) .e)) (some t24) (.n (.n (lf t152) (some t88) (lf t216)) (some t56) (.n (lf t184) (some t120) .e)))) (some t4) (.n (.n (.n (.n (lf t132) (some t68) (lf t196)) (some t36) (.n (lf t164) (some t100) (lf t228))) (some t20) (.n (.n (lf t148) (some t84) (lf t212)) (some t52) (.n (lf t180) (some t116) .e))) (some t12) (.n (.n (.n (lf t140) (some t76) (lf t204)) (some t44) (.n (lf t172) (some t108) .e)) (some t28) (.n (.n (lf t156) (some t92) (lf t220)) (some t60) (.n (lf t188) (some t124) .e))))) (some t2) (.n (.n (.n (.n (.n (lf t130) (some t66) (lf t194)) (some t34) (.n (lf t162) (some t98) (lf t226))) (some t18) (.n (.n (lf t146) (some t82) (lf t210)) (some t50) (.n (lf t178) (some t114) .e))) (some t10) (.n (.n (.n (lf t138) (some t74) (lf t202)) (some t42) (.n (lf t170) (some t106) .e)) (some t26) (.n (.n (lf t154) (some t90) (lf t218)) (some t58) (.n (lf t186) (some t122) .e)))) (some t6) (.n (.n (.n (.n (lf t134) (some t70) (lf t198)) (some t38) (.n (lf t166) (some t102) (lf t230))) (some t22) (.n (.n (lf t150) (some t86) (lf t214)) (some t54) (.n (lf t182) (some t118) .e))) (some t14) (.n (.n (.n (lf t142) (some t78) (lf t206)) (some t46) (.n (lf t174) (some t110) .e)) (some t30) (.n (.n (lf t158) (some t94) (lf t222)) (some t62) (.n (lf t190) (some t126) .e)))))))
noncomputable def funcsT:T Func:=(.n (.n (.n (.n (.n (.n (.n (lf f127) (some f63) (lf f191)) (some f31) (.n (lf f159) (some f95) .e)) (some f15) (.n (.n (lf f143) (some f79) .e) (some f47) (.n (lf f175) (some f111) .e))) (some f7) (.n (.n (.n (lf f135) (some f71) .e) (some f39) (.n (lf f167) (some f103) .e)) (some f23) (.n (.n (lf f151) (some f87) .e) (some f55) (.n (lf f183) (some f119) .e)))) (some f3) (.n (.n (.n (.n (lf f131) (some f67) .e) (some f35) (.n (lf f163) (some f99) .e)) (some f19) (.n (.n (lf f147) (some f83) .e) (some f51) (.n (lf f179) (some f115) .e))) (some f11) (.n (.n (.n (lf f139) (some f75) .e) (some f43) (.n (lf f171) (some f107) .e)) (some f27) (.n (.n (lf f155) (some f91) .e) (some f59) (.n (lf f187) (some f123) .e))))) (some f1) (.n (.n (.n (.n (.n (lf f129) (some f65) .e) (some f33) (.n (lf f161) (some f97) .e)) (some f17) (.n (.n (lf f145) (some f81) .e) (some f49) (.n (lf f177) (some f113) .e))) (some f9) (.n (.n (.n (lf f137) (some f73) .e) (some f41) (.n (lf f169) (some f105) .e)) (some f25) (.n (.n (lf f153) (some f89) .e) (some f57) (.n (lf f185) (some f121) .e)))) (some f5) (.n (.n (.n (.n (lf f133) (some f69) .e) (some f37) (.n (lf f165) (some f101) .e)) (some f21) (.n (.n (lf f149) (some f85) .e) (some f53) (.n (lf f181) (some f117) .e))) (some f13) (.n (.n (.n (lf f141) (some f77) .e) (some f45) (.n (lf f173) (some f109) .e)) (some f29) (.n (.n (lf f157) (some f93) .e) (some f61) (.n (lf f189) (some f125) .e)))))) (some f0) (.n (.n (.n (.n (.n (.n (lf f128) (some f64) .e) (some f32) (.n (lf f160) (some f96) .e)) (some f16) (.n (.n (lf f144) (some f80) .e) (some f48) (.n (lf f176) (some f112) .e))) (some f8) (.n (.n (.n (lf f136) (some f72) .e) (some f40) (.n (lf f168) (some f104) .e)) (some f24) (.n (.n (lf f152) (some f88) .e) (some f56) (.n (lf f184) (some f120) .e)))) (some f4) (.n (.n (.n (.n (lf f132) (some f68) .e) (some f36) (.n (lf f164) (some f100) .e)) (some f20) (.n (.n (lf f148) (some f84) .e) (some f52) (.n (lf f180) (some f116) .e))) (some f12) (.n (.n (.n (lf f140) (some f76) .e) (some f44) (.n (lf f172) (some f108) .e)) (some f28) (.n (.n (lf f156) (some f92) .e) (some f60) (.n (lf f188) (some f124) .e))))) (some f2) (.n (.n (.n (.n (.n (lf f130) (some f66) .e) (some f34) (.n (lf f162) (some f98) .e)) (some f18) (.n (.n (lf f146) (some f82) .e) (some f50) (.n (lf f178) (some f114) .e))) (some f10) (.n (.n (.n (lf f138) (some f74) .e) (some f42) (.n (lf f170) (some f106) .e)) (some f26) (.n (.n (lf f154) (some f90) .e) (some f58) (.n (lf f186) (some f122) .e)))) (some f6) (.n (.n (.n (.n (lf f134) (some f70) .e) (some f38) (.n (lf f166) (some f102) .e)) (some f22) (.n (.n (lf f150) (some f86) .e) (some f54) (.n (lf f182) (some f118) .e))) (some f14) (.n (.n (.n (lf f142) (some f78) .e) (some f46) (.n (lf f174) (some f110) .e)) (some f30) (.n (.n (lf f158) (some f94) .e) (some f62) (.n (lf f190) (some f126) .e)))))))
abbrev so:Option (T (List Phase)):=some .e
def ph(l:List Nat)(k:Nat):Phase:=⟨l,l,some k⟩
def pk(k:Nat):Phase:=⟨[],[],some k⟩
def pe:Phase:=⟨[],[],none⟩
def plans:T (T (List Phase)):=(.n (.n (.n (.n (.n (.n (.n (.n .e so .e) so .e) (some (.n .e none (.n .e none (lf [ph [0,1,2,3,4,5,7,9] 6,⟨[],[7,9],some 8⟩,⟨[],[9],some 10⟩,pe])))) (.n (.n .e so .e) so .e)) (some (.n .e none (lf [ph [0,1,2,3] 4,⟨[5],[0,1,5],some 6⟩,pk 7,pe]))) (.n (.n (.n .e so .e) so .e) so (.n .e (some (.n (lf [ph [0,1,2,3,4,5,7,8,9,10,11,12,14,15,16,18,19] 6,⟨[],[7,8,9,10,11,12,14,15,16,18,19],some 13⟩,⟨[],[14,15,16,18,19],some 17⟩,⟨[],[18,19],some 20⟩,pk 21,pk 22,pe]) none .e)) .e))) (some (.n (.n (.n (.n (lf [ph [0,1,2,3,4,5,6,7,8,9] 10,ph [11,12,13] 14,⟨[],[13],some 15⟩,pe]) none .e) none .e) none (.n (lf [ph [0,1,2,3,4,5] 6,ph [7,8,9] 10,⟨[],[9],some 11⟩,pe]) none .e)) none .e)) (.n (.n (.n (.n .e so .e) so .e) (some (.n (.n .e none (.n (lf [ph [0,1,2,3,4,5,6,7,8,9] 10,⟨[11,12],[0,11,12],some 13⟩,pe]) none (lf [ph [0,1,2,3,4,5,6,7,8,9] 10,⟨[11,12],[0,11,12],some 13⟩,pe]))) none (.n .e none (.n .e none (lf [ph [0,1,2,3,4,5,6,7] 8,⟨[],[0,1,2,3,4,5],some 9⟩,pk 10,pe]))))) (.n .e so .e)) (some (.n .e none (.n (lf [ph [0,1,2,3] 4,⟨[],[0],some 5⟩,pk 6,pk 7,pe]) none .e))) (.n (.n .e so .e) so (.n .e so .e)))) (some (.n (.n .e none (lf [ph [0,1,2,3,4,5,6,7,8,9,11] 10,⟨[],[11],some 12⟩,⟨[13,14],[13,14],none⟩])) none .e)) (.n (.n (.n (.n (.n .e so .e) (some (.n (.n (.n .e none (lf [ph [0,1,2,3,4,5,6,7,8,9] 10,pk 11,pe])) none (.n .e none (lf [ph [0,1,2,3,4,5,6,7,8,9,10,11,12] 13,pk 14,pe]))) none .e)) .e) (some (.n .e none (.n .e none (.n (lf [ph [0,1,2,3,4,5,6,8,9,10,11,12,13,14,17,18,19] 7,⟨[],[8,9,10,11,12,13,14,17,18,19],some 15⟩,⟨[16],[16,17,18,19],some 20⟩,⟨[21],[16,21],none⟩]) none .e)))) (.n .e so .e)) (some (.n .e none (lf [ph [0,1,2,3] 4,⟨[5],[0,1,5],some 6⟩,pk 7,pe]))) (.n (.n .e (some (.n (lf [ph [0,1,2,3,4,5,6,7,8,9,10] 11,pe]) none .e)) .e) (some (.n (.n .e none (lf [ph [0,1,2,3,4] 5,⟨[],[1,2,4],some 6⟩,pk 7,pe])) none .e)) (.n .e (some (.n .e none (.n .e none (.n (lf [ph [0,1,2,3,4,5,6] 7,⟨[],[0,1,2,3],some 8⟩,pe]) none .e)))) .e))) (some (.n (.n (lf [ph [0,2,3,4,5,6,7] 1,⟨[],[2,3,4,5,6,7],some 8⟩,⟨[],[2,3,4,5,6,7],some 9⟩,pe]) none (.n (lf [ph [0,1,2,3,4,6,7,8,9,10] 5,⟨[],[6,7,8,9,10],some 11⟩,ph [12] 13,pe]) none .e)) none (.n (.n (lf [ph [0,1,2,3,4,5] 6,⟨[],[1,2],some 7⟩,⟨[],[2],some 8⟩,pe]) none .e) none (.n (lf [ph [0,1,2,4,5] 3,⟨[],[4,5],some 6⟩,ph [7] 8,pe]) none .e)))) (.n (.n (.n (.n .e so .e) so .e) (some (.n .e none (.n .e none (lf [⟨[0,1,2,3,4,5,6,7,8,9,10,11,12,13],[0,1,2,3,4,5,6,7,8,9,10,11,12,13],none⟩])))) (.n .e so .e)) (some (.n .e none (.n .e none (lf [⟨[0,1,2,3,4,5,6,7,8],[0,1,2,3,4,5,6,7,8],none⟩])))) (.n (.n .e (some (.n (.n .e none (lf [ph [0,1,2,3] 4,⟨[],[0],some 5⟩,ph [6,7,8] 9,⟨[],[8],none⟩])) none .e)) .e) so (.n .e so .e))))) none (.n (.n (.n (.n (.n (.n .e so .e) so .e) so (.n (.n .e so .e) so .e)) so (.n (.n (.n .e so .e) so .e) (some (.n .e none (lf [ph [0,1,2,4,5,6,7] 3,⟨[8],[0,1,4,5,6,7,8],some 9⟩,pk 10,pe]))) (.n .e (some (.n (.n .e none (.n (lf [ph [0,1,2,3,4,5,6,7,8,9] 10,⟨[11],[0,11],some 12⟩,pk 13,pe]) none .e)) none .e)) .e))) (some (.n (.n (.n .e none (.n (.n (lf [⟨[0,1,2,3,4,5,6,7,8,9,10,11,12,13,14],[0,1,2,3,4,5,6,7,8,9,10,11,12,13,14],none⟩]) none .e) none .e)) none (.n (.n .e none (lf [⟨[0,1,2,3,4,5,6,7,8,9,10,11,12,13,14,15,16,17,18,19,20,21,22,23,24,25,26,27,28],[0,1,2,3,4,5,6,7,8,9,10,11,12,13,14,15,16,17,18,19,20,21,22,23,24,25,26,27,28],none⟩])) none (.n (lf [ph [0,1,2,3,4,5,6] 7,pk 8,pe]) none .e))) none (.n (.n .e none (.n (.n (lf [ph [0,1,2,3,4,5,6,7,8,9,10,11,12,13,14,15] 16,ph [17] 18,pe]) none .e) (some [ph [0,1,2,3,4,5,6,7] 8,pe]) .e)) none (.n (.n .e none (lf [ph [0,1,2,4,5,6,7,8,9] 3,⟨[],[4,5,6,7,8,9],some 10⟩,⟨[],[4,5,6,7,8,9],some 11⟩,pe])) none .e)))) (.n (.n (.n (.n .e so .e) so .e) so (.n .e so .e)) so (.n (.n .e so .e) so (.n .e so .e)))) so (.n (.n (.n (.n (.n .e so .e) (some (.n .e none (.n .e none (lf [ph [0,1,2,3,4,5,6,7,8,9,10,11,12,13,14] 15,⟨[16,17],[16,17],none⟩])))) .e) so (.n (.n .e so .e) so .e)) (some (.n .e none (.n .e none (lf [⟨[0,1,2,3,4,5,6,7,8],[0,1,2,3,4,5,6,7,8],none⟩])))) (.n (.n .e so .e) so (.n .e so .e))) so (.n (.n (.n (.n .e so .e) so .e) so (.n .e so .e)) so (.n (.n (.n .e so .e) so .e) so (.n .e so .e)))))) none (.n (.n (.n (.n (.n (.n (.n .e (some (.n .e none (.n (lf [ph [0,1,3,4,6,7,9,10] 2,⟨[],[3,4,6,7,9,10],some 5⟩,⟨[],[6,7,9,10],some 8⟩,⟨[],[9,10],some 11⟩,ph [12] 13,pk 14,pe]) none .e))) .e) so .e) (some (.n .e none (.n .e none (lf [⟨[0,1,2,3,4,5,6,7,8,9,10],[0,1,2,3,4,5,6,7,8,9,10],none⟩])))) (.n (.n .e so .e) so .e)) so (.n (.n (.n .e so .e) so .e) (some (.n .e none (lf [ph [0,1,2,3] 4,⟨[5],[0,1,5],some 6⟩,pk 7,pe]))) (.n .e so .e))) (some (.n (.n (lf [ph [0,1,3,4,5,6,7,8,9,10,11] 2,⟨[],[3,4,5,6,7,8,9,10,11],some 12⟩,⟨[],[3,4,5,6,7,8,9,10,11],some 13⟩,⟨[],[9,10,11],some 14⟩,pe]) none .e) none (.n (.n .e none (.n (lf [ph [0,1,2,3,4,10] 5,⟨[],[0,1,2,10],some 6⟩,⟨[7,8,9],[7,8,9,10],some 11⟩,⟨[],[9],some 12⟩,pe]) none .e)) none .e))) (.n (.n (.n (.n .e so .e) so .e) so (.n (.n .e so .e) so .e)) (some (.n .e none (.n .e none (lf [ph [0,1,2,3,4,5,6,7] 8,⟨[9],[9],none⟩])))) (.n (.n (.n .e so .e) so .e) so (.n .e so .e)))) so (.n (.n (.n (.n (.n .e (some (lf [ph [0,1,2] 3,⟨[4],[0,4],some 5⟩,pe])) .e) so .e) so (.n .e so .e)) so (.n (.n (.n .e so .e) so .e) (some (.n (.n (.n .e (some [ph [0,1,2,4,6,7,8,9,10] 3,⟨[],[0,1,4,6,7,8,9,10],some 5⟩,⟨[11],[0,1,6,7,8,9,10,11],some 12⟩,pk 13,pe]) (lf [⟨[0,1,2,3,4,5,6,7,8,9,10,11,12,13,14,15,16,17,18],[0,1,2,3,4,5,6,7,8,9,10,11,12,13,14,15,16,17,18],none⟩])) none (.n .e none (lf [ph [0,1,2,3] 4,⟨[],[2,3],some 5⟩,pk 6,pe]))) none .e)) (.n .e so .e))) (some (.n (.n (.n .e none (.n (lf [ph [0,1,2,3,4,5,6,7,8,9,10,11,12,14] 13,⟨[],[14],some 15⟩,ph [16,17,18,19] 20,ph [21,22,23] 24,ph [25] 26,pe]) none .e)) none (.n (lf [ph [0,1,2,3,4,5,6,7,8,9,10,11,12] 13,ph [14] 15,pe]) none .e)) none .e)) (.n (.n (.n (.n .e (some (.n .e none (.n .e (some [ph [0,1] 2,⟨[],[0],some 3⟩,pk 4,pe]) (lf [ph [0,1,2,3,5,6] 4,⟨[],[0,5,6],some 7⟩,⟨[8],[8],none⟩])))) .e) so .e) (some (.n (.n .e none (lf [ph [0,1,2,3,4,5,6,7,8] 9,pe])) none (.n (lf [⟨[0,1,2,3,4,5,6,7,8],[0,1,2,3,4,5,6,7,8],none⟩]) none .e))) (.n (.n .e so .e) so .e)) (some (.n (.n (.n (lf [ph [0,2] 1,⟨[],[2],some 3⟩,ph [4] 5,pk 6,pe]) none .e) none .e) none (lf [ph [0,1,2,3] 4,⟨[5],[0,1,5],some 6⟩,pk 7,pe]))) (.n (.n .e so .e) so (.n .e so .e))))) so (.n (.n (.n (.n (.n (.n .e so .e) (some (.n (lf [ph [0,1,2,3,4,5,6,10,11,12,13,14,15,16,20,21] 7,⟨[8,9],[8,9,10,11,12,13,14,15,16,20,21],some 17⟩,⟨[18,19],[8,9,18,19,20,21],some 22⟩,⟨[],[18,19],some 23⟩,pe]) none .e)) .e) so (.n .e so .e)) (some (.n (.n (.n (.n (lf [⟨[0,1,2,3,4,5,6,7,8],[0,1,2,3,4,5,6,7,8],none⟩]) none .e) none .e) none .e) none .e)) (.n (.n (.n .e so .e) so .e) (some (.n .e none (lf [ph [0,1,2,4,6,8,9,10,11] 3,⟨[],[0,1,4,6,8,9,10,11],some 5⟩,⟨[],[0,1,6,8,9,10,11],some 7⟩,⟨[12],[0,1,8,9,10,11,12],some 13⟩,pk 14,pe]))) (.n .e so .e))) (some (.n (.n (.n (.n .e none (lf [ph [0,1,2,3,4,5,6,7,8,9] 10,ph [11] 12,pe])) none .e) none (.n .e none (lf [ph [0,1,2,3,4,5,6,7,8,9,10,11,12,13,14,15,16] 17,ph [18,19,20,21,22,23,24,25,26,27,28,29,30,31,32] 33,⟨[34,35,36],[34,35,36],none⟩]))) none .e)) (.n (.n (.n (.n .e so .e) (some (.n .e none (.n .e none (lf [ph [0,1,2,3,4,6,7,8,9] 5,⟨[],[0,1,2,6,7,8,9],some 10⟩,⟨[],[0,1,2],some 11⟩,pk 12,pe])))) .e) (some (.n .e none (.n .e none (lf [ph [0,1,2,3] 4,ph [5,6,7,8,9,10,11,12,13,14,15,16,17] 18,⟨[19,20,21,22,23,24,25,26,27,28,29,30,31,32,33,34,35,36,37],[19,20,21,22,23,24,25,26,27,28,29,30,31,32,33,34,35,36,37],none⟩])))) (.n .e so .e)) (some (.n .e none (.n (lf [ph [0,1,2,3] 4,⟨[],[0],some 5⟩,pk 6,pk 7,pe]) none .e))) (.n (.n .e so .e) (some (.n .e none (.n (.n (lf [ph [0,1,2,3,4,5,7,8] 6,⟨[9],[0,1,7,8,9],some 10⟩,pe]) none .e) none .e))) (.n .e so .e)))) (some (.n (.n .e none (.n (.n (lf [ph [0,1,2,3,5,6,7,8] 4,⟨[],[5,6,7,8],some 9⟩,pk 10,pk 11,pe]) none .e) none .e)) none (.n (.n (.n (lf [ph [0,1,2,3,5,6,7,8] 4,⟨[],[5,6,7,8],some 9⟩,pk 10,pk 11,pe]) none .e) none .e) none (.n (.n (lf [ph [0,1,2,3,4,5,7,8,9,10,11,13] 6,⟨[],[7,8,9,10,11,13],some 12⟩,⟨[],[13],some 14⟩,pe]) none .e) none (lf [ph [0,1,2,3,4,5,6,7,9,10,11,12,13,14,15,16,18,19] 8,⟨[],[9,10,11,12,13,14,15,16,18,19],some 17⟩,⟨[],[18,19],some 20⟩,pk 21,pe]))))) (.n (.n (.n (.n (.n .e (some (.n (lf [ph [0,1,2,3,4,5,6,7,8,10,11,17] 9,⟨[],[10,11,17],some 12⟩,⟨[],[17],some 13⟩,⟨[14,15,16],[14,15,16,17],some 18⟩,⟨[],[16],some 19⟩,pe]) none .e)) .e) so .e) so (.n (.n .e so .e) so .e)) so (.n (.n .e so .e) so (.n .e so .e))) (some (.n (.n (.n (.n .e none (lf [ph [0] 1,⟨[2,3,4],[0,2,3,4],some 5⟩,⟨[6,7,8,9],[4,6,7,8,9],some 10⟩,⟨[11,12,13,14,15,16,17,18,19,20,21,22,23,24,25,26,27,28,29,30,31,32,33,34],[9,11,12,13,14,15,16,17,18,19,20,21,22,23,24,25,26,27,28,29,30,31,32,33,34],some 35⟩,⟨[36,37,38,39,40],[34,36,37,38,39,40],some 41⟩,ph [42,43,44,45] 46,ph [47] 48,pe])) none .e) none .e) none .e)) (.n (.n (.n (.n .e so .e) so .e) so (.n .e so .e)) (some (.n (.n (.n (lf [ph [0,1,2,3,8] 4,⟨[5,6,7],[5,6,7,8],some 9⟩,⟨[],[7],some 10⟩,pe]) none .e) none .e) none (.n .e (some [ph [0,1,2,3,5,7] 4,⟨[],[0,1,5,7],some 6⟩,⟨[],[0,1,7],some 8⟩,⟨[9],[0,1,9],some 10⟩,pk 11,pe]) (lf [ph [1,5,6,7,8] 0,⟨[2,3,4],[1,2,3,4,5,6,7,8],some 9⟩,pk 10,pe])))) (.n (.n (.n .e so .e) so .e) so (.n .e (some (.n (lf [ph [0,1,2,3,5,6,7,8,9,10,11,12,14,15,16,17,19,20,21,22] 4,⟨[],[5,6,7,8,9,10,11,12,14,15,16,17,19,20,21,22],some 13⟩,⟨[],[14,15,16,17,19,20,21,22],some 18⟩,⟨[],[19,20,21,22],some 23⟩,ph [24] 25,pk 26,pe]) none .e)) .e)))))))
noncomputable def tab:Tab:={types:=typesT,funcs:=funcsT,prog:=prog}
def cfg:Cfg:={add:=143,done:=146,wait:=133,bW:=6378,bB:=6377,dB:=3,bR:=6376,dR:=2,nR:=182,n:=91,fuel:=1000000}
noncomputable def x0:L:=match zIa tab 14 [] false with
  |some fr=>{s:={fr,cs:=[],h:=⟨.e,0,0,[],1000000000⟩},reg:=none,lay:=[]}
  |none=>{s:={fr:={fn:=0,nt:=0,tmps:=.e,todo:=[],defers:=[],ret:=false,deferred:=false,round:=none},cs:=[],h:=⟨.e,0,0,[],0⟩},reg:=none,lay:=[]}
end Go.Proofs.Tryz
end
section
open Go Go.Cx
namespace Go.Proofs
theorem Tryz.tn:Tryz.prog.types.toList.length=231:=by kernel_rfl
theorem Tryz.fn:Tryz.prog.funcs.toList.length=192:=by kernel_rfl
theorem Tryz.tk:(Tryz.typesT.keys.all fun k=>Nat.blt k 231)=true:=by kernel_rfl
theorem Tryz.fk:(Tryz.funcsT.keys.all fun k=>Nat.blt k 192)=true:=by kernel_rfl
theorem Tryz.te:(List.range 231).map Tryz.typesT.get=Tryz.prog.types.toList.map some:=by kernel_rfl
theorem Tryz.fe:(List.range 192).map Tryz.funcsT.get=Tryz.prog.funcs.toList.map some:=by kernel_rfl
theorem Tryz.nn:(Tryz.prog.funcs.toList.all fun f=>!(f.name == "runtime.NumGoroutine"))=true:=by kernel_rfl
theorem Tryz.hmix:Tryz.prog.follows .mixedOrders=true:=by kernel_rfl
theorem Tryz.tabOk:TabOk Tryz.tab:=by
  refine⟨fun t i h=>?_,fun f fn h=>?_,fun f fn h e=>?_⟩
  · have:=table_ok 231 Tryz.tn Tryz.tk Tryz.te t i h
    rw[Array.getElem?_toList] at this
    have hlt:=(Array.getElem?_eq_some_iff.1 this).1
    show Tables.info? _ t=some i
    unfold Tables.info?
    exact(if_pos hlt).trans this
  · have:=table_ok 192 Tryz.fn Tryz.fk Tryz.fe f fn h
    rw[Array.getElem?_toList] at this
    exact this
  · have:=table_ok 192 Tryz.fn Tryz.fk Tryz.fe f fn h
    have:=List.all_eq_true.1 Tryz.nn fn (List.mem_of_getElem? this)
    simp[e] at this
end Go.Proofs
end
namespace Go.Proofs
section
abbrev Tryz.link:Go.Conc.Lib.WgLink:={add:=143,done:=146,wait:=133,relMerge:=162,disable:=147,enable:=149,inBubble:=155,associate:=163,fatal:=164,uOr:=165,uAdd:=166,raceRead:=167,uLoad:=148,uStore:=168,disassociate:=153,semrelease:=169,acquire:=150,isAssociated:=151,uCas:=152,raceWrite:=154,semacquire:=156,orU64:=173,addU64:=174,loadU64:=170,storeU64:=175,casU64:=171,tWgP:=189,tUP:=194,tAssoc:=203,tWg:=180,tAU:=177,tU64:=175,tUint:=192,tU32:=178,tPU32:=198,tPAU:=209,tPU64:=211,tNoCopy:=172,tANoCopy:=173,tAlign64:=174}
theorem Tryz.wgLib:Go.Conc.Lib.WgLib Tryz.prog Tryz.link:=
  ⟨Tryz.func143,Tryz.func146,Tryz.func133,Tryz.func162,Tryz.func147,Tryz.func149,Tryz.func155,Tryz.func163,Tryz.func164,Tryz.func165,Tryz.func166,Tryz.func167,Tryz.func148,Tryz.func168,Tryz.func153,Tryz.func169,Tryz.func150,Tryz.func151,Tryz.func152,Tryz.func154,Tryz.func156,Tryz.func173,Tryz.func174,Tryz.func170,Tryz.func175,Tryz.func171,Tryz.underlying189,Tryz.runUnderlying189,Tryz.sizeOf189,Tryz.isAgg189,Tryz.zeroValue189,Tryz.underlying194,Tryz.runUnderlying194,Tryz.sizeOf194,Tryz.isAgg194,Tryz.zeroValue194,Tryz.underlying203,Tryz.runUnderlying203,Tryz.sizeOf203,Tryz.isAgg203,Tryz.zeroValue203,Tryz.underlying180,Tryz.runUnderlying180,Tryz.sizeOf180,Tryz.isAgg180,Tryz.zeroValue180,Tryz.underlying177,Tryz.runUnderlying177,Tryz.sizeOf177,Tryz.isAgg177,Tryz.zeroValue177,Tryz.underlying175,Tryz.runUnderlying175,Tryz.sizeOf175,Tryz.isAgg175,Tryz.zeroValue175,Tryz.underlying192,Tryz.runUnderlying192,Tryz.sizeOf192,Tryz.isAgg192,Tryz.zeroValue192,Tryz.underlying178,Tryz.runUnderlying178,Tryz.sizeOf178,Tryz.isAgg178,Tryz.zeroValue178,Tryz.underlying198,Tryz.runUnderlying198,Tryz.sizeOf198,Tryz.isAgg198,Tryz.zeroValue198,Tryz.underlying209,Tryz.runUnderlying209,Tryz.sizeOf209,Tryz.isAgg209,Tryz.zeroValue209,Tryz.underlying211,Tryz.runUnderlying211,Tryz.sizeOf211,Tryz.isAgg211,Tryz.zeroValue211,Tryz.underlying0,Tryz.runUnderlying0,Tryz.sizeOf0,Tryz.isAgg0,Tryz.zeroValue0,Tryz.underlying3,Tryz.runUnderlying3,Tryz.sizeOf3,Tryz.isAgg3,Tryz.zeroValue3,Tryz.underlying4,Tryz.runUnderlying4,Tryz.sizeOf4,Tryz.isAgg4,Tryz.zeroValue4,Tryz.underlying9,Tryz.runUnderlying9,Tryz.sizeOf9,Tryz.isAgg9,Tryz.zeroValue9,Tryz.underlying20,Tryz.runUnderlying20,Tryz.sizeOf20,Tryz.isAgg20,Tryz.zeroValue20,Tryz.underlying21,Tryz.runUnderlying21,Tryz.sizeOf21,Tryz.isAgg21,Tryz.zeroValue21,(by kernel_rfl),(by kernel_rfl)⟩
end
end Go.Proofs
section
open Go Go.Cx
noncomputable section
namespace Go.Proofs.Tryz
def en{α:Type}:Nat→List α→List (Nat×α)
  |_,[]=>[]
  |k,x::l=>(k,x)::en (k+1) l
def ca(k:Nat)(l:List Nat):Code:=cAt tab k l
def cd(k:Nat)(l:List Nat):AI:=.code (cAt tab k l)
def oa(k:Nat)(l:List Nat):Array Oper:=oAt tab k l
def rg(k:Nat)(l:List Nat)(i:Nat):AI:=regAt tab k l i
def Xc:=vS 3199 0 2 2
def Xb:=vS 3942 0 1 1
def Qa:=vI 0
def Xu:Value:=(.tuple #[Xc,Xb,Qa])
def Xy:Value:=(.agg #[(vI 93),(vI 102)])
def Ya:Value:=(.tuple #[Xy,Qa])
def Xx:Value:=(.agg #[(vI 93),(vI 100)])
def X9:Value:=(.tuple #[Xx,Qa])
def Xw:Value:=(.agg #[(vI 73),(vI 80)])
def X8:Value:=(.tuple #[Xw,Qa])
def Q6:=vS 2198 0 3 3
def Xg:Value:=(.tuple #[Q6,Qa])
def Qn:=vI 4
def Y3:Value:=(.tuple #[(vI 76),Qn,Qa])
def Qg:=vI 1
def Qo:Value:=(.tuple #[Qg,Qa])
def Qr:Value:=(.tuple #[Qa,Qa])
def Qi:=vI 2
def Q9:Value:=(.tuple #[Qi,Qa])
def Xs:=vS 1295 0 2 2
def X2:=vS 1927 0 3 3
def Xk:=vS 663 0 2 2
def X0:=vS 30 0 3 3
def Qp:=vS 22 0 7 7
def Qm:=vI 3
def Qd:Value:=(.agg #[(vI 10),Qi,(vI 5),Qm,Qp])
def Qk:Value:=(.agg #[Qi,Qn,Qg,Qi,(vS 27 0 3 3)])
def Xe:T Value:=(mkT (en 0 [vF,(vP 28 0),(vP 29 0),Qg,Qa,Qa,Qa,Qi,Qa,Q6,Qa,Xc,Xb,Qa,Qg,Qa,(vP 5531 0),Qa,(vP 5674 0),Qa,(vP 5817 0),Qa,Qg,Qa,Qa,Qa,(vI 76),Qn,Qa]++en 37 [Qd,Qk,Qo,Qd,X0,Qo,Qg,Qa,Qr,Qd,Xk,Qr,Qa,Qa,Q9,Qd,Xs,Q9,Qi,Qa,Xg,Qd,X2,Xg,Q6,Qa,Xu,Qd,Xu,Xc,Xb,Qa,Qo,Qd,Qo,Qg,Qa,Ya,Qk,Ya,Xy,Qa,X9,Qk,X9,Xx,Qa,X8,Qk,X8,Xw,Qa,Qo,Qk,Qo,Qg,Qa,Qr,Qk,Qr,Qa,Qa,Y3,Qk,Y3,(vI 76),Qn,Qa]++[(106,Qk)]))
def Q3:Value:=(.agg #[(vI 10),Qi,(vI 5),Qm,Qp,Qa,Qg,Qg,Qa,Qg,Qg,Qi,Qa,Qa,Qa,Qa,Qg,Qg,Qg,Qg,Qi,Qa,Qa,Qa,Qa,Qa,Qa,Qg,Qg,Qi,Qa,Qa,Qa,Qa,Qa,Qa,Qg,Qg,Qi,Qa,Qa,Qa,Qa,Qa,Qa,Qa,Qg,Qi,Qa,Qa,Qa,Qa,Qa,Qa,Qa,Qa,Qi,Qa,Qa,Qa,Qa,Qa,Qa,Qa,Qa,Qa,Qa,Qa,Qa,Qa,Qa,Qa,Qa,Qa,Qa,Qa,Qa,Qa,Qa,Qa,Qa,Qa,Qa,Qa,Qa,Qa])
def Yw:=vP 4580 0
def Xd:=vP 4579 0
def Qb:T Value:=(mkT (en 0 [Q3,(vP 4577 0),(.slice none 0 0),(vP 4578 0)]++en 5 [Q3,(vP 4577 0),(vP 4577 0),(vP 4577 0),(vP 4577 3),Qm,(.func (.func 139) #[] #[Yw,Xd])]))
def Q0:Value:=(.func (.func 56) #[Qd] #[])
def Wh:Value:=(.func (.func 123) #[] #[(vP 3945 0),(vP 3946 0)])
def Yy:Value:=(.agg #[vF,vF,vF,vT,vF,vF,vF,vF,vF])
def Qc:T Value:=(mkT (en 0 [Qd,Qm,(vP 3943 0)]++en 4 [Qa,Qa,(vP 3944 0),Qa,(vP 4149 0),Qd,Qd,Qd,Q0,Qd,Qm,Wh,(vS 3947 0 2 2),Qa,Qa,vF]++en 21 [Qm,(vP 4149 3),Qd,Q3,Yy]))
def Qj:T Value:=(mkT (en 0 [vF,(vP 28 0),(vP 29 0),Qg,Qa,Qa,Qa,Qi,Qa,Q6,Qa,Xc,Xb,Qa]++en 37 [Qd,Qk,Qo,Qd,X0,Qo,Qg,Qa,Qr,Qd,Xk,Qr,Qa,Qa,Q9,Qd,Xs,Q9,Qi,Qa,Xg,Qd,X2,Xg,Q6,Qa,Xu,Qd,Xu,Xc,Xb,Qa]++[(70,Qd)]))
def Yz:Value:=(.func (.func 85) #[Qk] #[])
def K9:Value:=(.func (.func 89) #[Qk] #[])
def K8:Value:=(.func (.func 90) #[Qk] #[])
def Xv:Fn:=(.func 124)
def Gt:Value:=(.func Xv #[] #[(vP 6263 0),(vP 6264 0),(vP 6265 0)])
def Gs:Value:=(.func Xv #[] #[(vP 6266 0),(vP 6267 0),(vP 6268 0)])
def K7:Value:=(.func (.func 92) #[] #[(vP 6259 0),(vP 6260 0)])
def Ql:T Value:=(mkT (en 0 [Qk,(vI 10),(vI 30),(vP 6258 0),(vP 6259 0),(vP 6260 0),Qa,(vP 6261 0),Qa,(vP 6262 0),K7]++en 13 [Qk,Qk,K7,Qk,Yz,(vI 10),Gt,(vI 30),Gs,K7,Qk,K9,Qk,K8,(vS 6269 0 6 6),Qa,Qa,vF]++[(33,Qk)]))
def X4:Value:=(.agg #[vF,vF,vF,vF,vF,vF,vF,vF,vF])
def Q2:T Value:=(mkT (en 0 [Qd,(vP 2199 0),(.slice none 0 0),(.slice none 0 0),Qa,(vP 2200 0),Qa]++en 9 [Qd,Qd,Qd,Qa,Qa,vF]++en 16 [Qd,Q3,X4]))
def Qq:T Value:=(mkT (en 0 [vF,(vP 28 0),(vP 29 0),Qg,Qa,Qa,Qa,Qi,Qa,Q6,Qa]++en 37 [Qd,Qk,Qo,Qd,X0,Qo,Qg,Qa,Qr,Qd,Xk,Qr,Qa,Qa,Q9,Qd,Xs,Q9,Qi,Qa,Xg,Qd,X2,Xg,Q6,Qa]++[(64,Qd)]))
def Y1:Nat×AObj:=row 6376 0 [oI 0,oI 0,oI 0,oI 0,oI 0,oI 0,oI 0,oI 0,oI 0,oI 0,oI 0,oI 0,oI 0,oI 0,oI 0,oI 0,oI 0,oI 0,oI 0,oI 0,oI 0,oI 0,oI 0,oI 0,oI 0,oI 0,oI 0,oI 0,oI 0,oI 0,oI 0,oI 0,oI 0,oI 0,oI 0,oI 0,oI 0,oI 0,oI 0,oI 0,oI 0,oI 0,oI 0,oI 0,oI 0,oI 0,oI 0,oI 0,oI 0,oI 0,oI 0,oI 0,oI 0,oI 0,oI 0,oI 0,oI 0,oI 0,oI 0,oI 0,oI 0,oI 0,oI 0,oI 0,oI 0,oI 0,oI 0,oI 0,oI 0,oI 0,oI 0,oI 0,oI 0,oI 0,oI 0,oI 0,oI 0,oI 0,oI 0,oI 0,oI 0,oI 0,oI 0,oI 0,oI 0,oI 0,oI 0,oI 0,oI 0,oI 0,oI 0,oI 0,oI 0,oI 0,oI 0,oI 0,oI 0,oI 0,oI 0,oI 0,oI 0,oI 0,oI 0,oI 0,oI 0,oI 0,oI 0,oI 0,oI 0,oI 0,oI 0,oI 0,oI 0,oI 0,oI 0,oI 0,oI 0,oI 0,oI 0,oI 0,oI 0,oI 0,oI 0,oI 0,oI 0,oI 0,oI 0,oI 0,oI 0,oI 0,oI 0,oI 0,oI 0,oI 0,oI 0,oI 0,oI 0,oI 0,oI 0,oI 0,oI 0,oI 0,oI 0,oI 0,oI 0,oI 0,oI 0,oI 0,oI 0,oI 0,oI 0,oI 0,oI 0,oI 0,oI 0,oI 0,oI 0,oI 0,oI 0,oI 0,oI 0,oI 0,oI 0,oI 0,oI 0,oI 0,oI 0,oI 0,oI 0,oI 0,oI 0,oI 0,oI 0,oI 0,oI 0,oI 0,oI 0,oI 0,oI 0,oI 0,oI 0,oI 0]
def Yu:Nat×AObj:=row 6377 0 [oI 0,oI 0,oI 0,oI 0,oI 0,oI 0,oI 0,oI 0,oI 0,oI 0,oI 0,oI 0,oI 0,oI 0,oI 0,oI 0,oI 0,oI 0,oI 0,oI 0,oI 0,oI 0,oI 0,oI 0,oI 0,oI 0,oI 0,oI 0,oI 0,oI 0,oI 0,oI 0,oI 0,oI 0,oI 0,oI 0,oI 0,oI 0,oI 0,oI 0,oI 0,oI 0,oI 0,oI 0,oI 0,oI 0,oI 0,oI 0,oI 0,oI 0,oI 0,oI 0,oI 0,oI 0,oI 0,oI 0,oI 0,oI 0,oI 0,oI 0,oI 0,oI 0,oI 0,oI 0,oI 0,oI 0,oI 0,oI 0,oI 0,oI 0,oI 0,oI 0,oI 0,oI 0,oI 0,oI 0,oI 0,oI 0,oI 0,oI 0,oI 0,oI 0,oI 0,oI 0,oI 0,oI 0,oI 0,oI 0,oI 0,oI 0,oI 0,oI 0,oI 0,oI 0,oI 0,oI 0,oI 0,oI 0,oI 0,oI 0,oI 0,oI 0,oI 0,oI 0,oI 0,oI 0,oI 0,oI 0,oI 0,oI 0,oI 0,oI 0,oI 0,oI 0,oI 0,oI 0,oI 0,oI 0,oI 0,oI 0,oI 0,oI 0,oI 0,oI 0,oI 0,oI 0,oI 0,oI 0,oI 0,oI 0,oI 0,oI 0,oI 0,oI 0,oI 0,oI 0,oI 0,oI 0,oI 0,oI 0,oI 0,oI 0,oI 0,oI 0,oI 0,oI 0,oI 0,oI 0,oI 0,oI 0,oI 0,oI 0,oI 0,oI 0,oI 0,oI 0,oI 0,oI 0,oI 0,oI 0,oI 0,oI 0,oI 0,oI 0,oI 0,oI 0,oI 0,oI 0,oI 0,oI 0,oI 0,oI 0,oI 0,oI 0,oI 0,oI 0,oI 0,oI 0,oI 0,oI 0,oI 0,oI 0]
def Yt:Nat×AObj:=row 6376 0 [oU,oU,oU,oU,oU,oU,oU,oU,oU,oU,oU,oU,oU,oU,oU,oU,oU,oU,oU,oU,oU,oU,oU,oU,oU,oU,oU,oU,oU,oU,oU,oU,oU,oU,oU,oU,oU,oU,oU,oU,oU,oU,oU,oU,oU,oU,oU,oU,oU,oU,oU,oU,oU,oU,oU,oU,oU,oU,oU,oU,oU,oU,oU,oU,oU,oU,oU,oU,oU,oU,oU,oU,oU,oU,oU,oU,oU,oU,oU,oU,oU,oU,oU,oU,oU,oU,oU,oU,oU,oU,oU,oU,oU,oU,oU,oU,oU,oU,oU,oU,oU,oU,oU,oU,oU,oU,oU,oU,oU,oU,oU,oU,oU,oU,oU,oU,oU,oU,oU,oU,oU,oU,oU,oU,oU,oU,oU,oU,oU,oU,oU,oU,oU,oU,oU,oU,oU,oU,oU,oU,oU,oU,oU,oU,oU,oU,oU,oU,oU,oU,oU,oU,oU,oU,oU,oU,oU,oU,oU,oU,oU,oU,oU,oU,oU,oU,oU,oU,oU,oU,oU,oU,oU,oU,oU,oU,oU,oU,oU,oU,oU,oU]
def Kg:Nat×AObj:=row 6377 0 [oU,oU,oU,oU,oU,oU,oU,oU,oU,oU,oU,oU,oU,oU,oU,oU,oU,oU,oU,oU,oU,oU,oU,oU,oU,oU,oU,oU,oU,oU,oU,oU,oU,oU,oU,oU,oU,oU,oU,oU,oU,oU,oU,oU,oU,oU,oU,oU,oU,oU,oU,oU,oU,oU,oU,oU,oU,oU,oU,oU,oU,oU,oU,oU,oU,oU,oU,oU,oU,oU,oU,oU,oU,oU,oU,oU,oU,oU,oU,oU,oU,oU,oU,oU,oU,oU,oU,oU,oU,oU,oU,oU,oU,oU,oU,oU,oU,oU,oU,oU,oU,oU,oU,oU,oU,oU,oU,oU,oU,oU,oU,oU,oU,oU,oU,oU,oU,oU,oU,oU,oU,oU,oU,oU,oU,oU,oU,oU,oU,oU,oU,oU,oU,oU,oU,oU,oU,oU,oU,oU,oU,oU,oU,oU,oU,oU,oU,oU,oU,oU,oU,oU,oU,oU,oU,oU,oU,oU,oU,oU,oU,oU,oU,oU,oU,oU,oU,oU,oU,oU,oU,oU,oU,oU,oU,oU,oU,oU,oU,oU,oU,oU]
def H8:Value:=(.agg #[(vI 10),Qi,(vI 5),Qm,Qp,Qa,Qa,Qa,Qa,Qa,Qa,Qa,Qa,Qa,Qa,Qa,Qa,Qa,Qa,Qa,Qa,Qa,Qa,Qa,Qa,Qa,Qa,Qa,Qa,Qa,Qa,Qa,Qa,Qa,Qa,Qa,Qa,Qa,Qa,Qa,Qa,Qa,Qa,Qa,Qa,Qa,Qa,Qa,Qa,Qa,Qa,Qa,Qa,Qa,Qa,Qa,Qa,Qa,Qa,Qa,Qa,Qa,Qa,Qa,Qa,Qa,Qa,Qa,Qa,Qa,Qa,Qa,Qa,Qa,Qa,Qa,Qa,Qa,Qa,Qa,Qa,Qa,Qa,Qa,Qa,Qa])
def Hr:Nat×AObj:=row 2824 0 [oI 10,oI 2,oI 5,oI 3,oS 22 0 7 7,oI 0,oI 1,oI 1,oI 0,oI 1,oI 1,oI 2,oI 0,oI 0,oI 0,oI 0,oI 1,oI 1,oI 1,oI 1,oI 2,oI 0,oI 0,oI 0,oI 0,oI 0,oI 0,oI 1,oI 1,oI 2,oI 0,oI 0,oI 0,oI 0,oI 0,oI 0,oI 1,oI 1,oI 2,oI 0,oI 0,oI 0,oI 0,oI 0,oI 0,oI 0,oI 1,oI 2,oI 0,oI 0,oI 0,oI 0,oI 0,oI 0,oI 0,oI 0,oI 2,oI 0,oI 0,oI 0,oI 0,oI 0,oI 0,oI 0,oI 0,oI 0,oI 0,oI 0,oI 0,oI 0,oI 0,oI 0,oI 0,oI 0,oI 0,oI 0,oI 0,oI 0,oI 0,oI 0,oI 0,oI 0,oI 0,oI 0,oI 0,oI 0]
def Hm:Nat×AObj:=row 4573 0 [oI 10,oI 2,oI 5,oI 3,oS 22 0 7 7,oI 0,oI 1,oI 1,oI 0,oI 1,oI 1,oI 2,oI 0,oI 0,oI 0,oI 0,oI 1,oI 1,oI 1,oI 1,oI 2,oI 0,oI 0,oI 0,oI 0,oI 0,oI 0,oI 1,oI 1,oI 2,oI 0,oI 0,oI 0,oI 0,oI 0,oI 0,oI 1,oI 1,oI 2,oI 0,oI 0,oI 0,oI 0,oI 0,oI 0,oI 0,oI 1,oI 2,oI 0,oI 0,oI 0,oI 0,oI 0,oI 0,oI 0,oI 0,oI 2,oI 0,oI 0,oI 0,oI 0,oI 0,oI 0,oI 0,oI 0,oI 0,oI 0,oI 0,oI 0,oI 0,oI 0,oI 0,oI 0,oI 0,oI 0,oI 0,oI 0,oI 0,oI 0,oI 0,oI 0,oI 0,oI 0,oI 0,oI 0,oI 0]
def K6:Value:=(.string ⟨#[101]⟩)
def K5:Value:=(.string ⟨#[97]⟩)
def K4:Value:=(.string ⟨#[99]⟩)
def Qy:Nat×AObj:=row 22 0 [some K5,oI 400,oI 405,oI 700,oI 700,oI 250,oI 252,some (.string ⟨#[98]⟩),oI 404,oI 408,oI 701,oI 701,oI 251,oI 251,some K4,oI 398,oI 402,oI 700,oI 701,oI 249,oI 250,some (.string ⟨#[100]⟩),oI 409,oI 412,oI 700,oI 700,oI 255,oI 255,some K6,oI 402,oI 402,oI 702,oI 702,oI 252,oI 254,some (.string ⟨#[102]⟩),oI 405,oI 406,oI 701,oI 702,oI 253,oI 253,some (.string ⟨#[103]⟩),oI 450,oI 450,oI 700,oI 700,oI 250,oI 250]
def Yq:Nat×AObj:=row 6269 0 [some Yz,some Gt,some Gs,some K7,some K9,some K8]
def Qf:=vP 6375 0
def Qe:=vP 6377 0
def Qh:Fn:=(.func 132)
def Gr:Value:=(.func Qh #[] #[Qf,(vP 6649 0),Qe])
def Xj:Value:=(.tuple #[])
def Xi:=vP 6378 0
def G7:T Value:=(mkT (en 0 [Qk,Qf,(vP 6376 0),Qe,Xi,(vP 6649 0),(vI 91),vF,(vI 90),Gr,Xj,(vI 91),Xj]))
def Gb:Nat×AObj:=row 3947 0 [some Q0,some Wh]
def G0:T Value:=(mkT (en 0 [Qk,Qf,(vP 6376 0),Qe,Xi]))
def Qv:Nat×AObj:=row 27 0 [oI 10,oI 30,oI 32,oI 0,oI 0,oI 20,oI 55,oI 60,oI 0,oI 0,oI 30,oI 96,oI 99,oI 1,oI 1]
def Gz:Nat×AObj:=row 2825 0 [some vF,some vF,some vF,some vF,some vF,some vF,some vF,some vF,some vF]
def Wn:Nat×AObj:=row 4149 0 [some vF,some vF,some vF,some vT,some vF,some vF,some vF,some vF,some vF]
def Gy:Nat×AObj:=row 4574 0 [some vF,some vF,some vF,some vT,some vF,some vF,some vF,some vF,some vF]
def Gx:AI:=(cd 14 [1,1,1,1,1,1,1,1,1,1,1,1,1,1,1,1,1,1,1,0,1,0,1])
def Gw:Nat×AObj:=row 7257 0 [oI 0,oI 3,oI 0,oI 0,oI 2,oI 3,oI 0,oI 0,oI 2,oI 3,oI 2,oI 0]
def Q7:Value:=(.func (.func 98) #[Qd] #[])
def Y6:Value:=(.func (.func 96) #[Qd] #[])
def Y4:Value:=(.func (.func 97) #[Qd] #[])
def Jk:Value:=(.func (.func 126) #[Qk] #[])
def Gv:Value:=(.func (.func 127) #[Qk] #[])
def Gu:Value:=(.func (.func 128) #[Qk] #[])
def Jc:Nat×AObj:=row 6381 0 [some (.func Qh #[] #[Qf,(vP 6379 0),Qe])]
def Z4:Nat×AObj:=row 6384 0 [some (.func Qh #[] #[Qf,(vP 6382 0),Qe])]
def Zx:Nat×AObj:=row 6387 0 [some (.func Qh #[] #[Qf,(vP 6385 0),Qe])]
def Zw:Nat×AObj:=row 6390 0 [some (.func Qh #[] #[Qf,(vP 6388 0),Qe])]
def Zu:Nat×AObj:=row 6393 0 [some (.func Qh #[] #[Qf,(vP 6391 0),Qe])]
def Zt:Nat×AObj:=row 6396 0 [some (.func Qh #[] #[Qf,(vP 6394 0),Qe])]
def Zs:Nat×AObj:=row 6399 0 [some (.func Qh #[] #[Qf,(vP 6397 0),Qe])]
def Zr:Nat×AObj:=row 6402 0 [some (.func Qh #[] #[Qf,(vP 6400 0),Qe])]
def Zq:Nat×AObj:=row 6405 0 [some (.func Qh #[] #[Qf,(vP 6403 0),Qe])]
def Zp:Nat×AObj:=row 6408 0 [some (.func Qh #[] #[Qf,(vP 6406 0),Qe])]
def Zo:Nat×AObj:=row 6411 0 [some (.func Qh #[] #[Qf,(vP 6409 0),Qe])]
def Zn:Nat×AObj:=row 6414 0 [some (.func Qh #[] #[Qf,(vP 6412 0),Qe])]
def Zm:Nat×AObj:=row 6417 0 [some (.func Qh #[] #[Qf,(vP 6415 0),Qe])]
def Zl:Nat×AObj:=row 6420 0 [some (.func Qh #[] #[Qf,(vP 6418 0),Qe])]
def Zk:Nat×AObj:=row 6423 0 [some (.func Qh #[] #[Qf,(vP 6421 0),Qe])]
def Zj:Nat×AObj:=row 6426 0 [some (.func Qh #[] #[Qf,(vP 6424 0),Qe])]
def Zi:Nat×AObj:=row 6429 0 [some (.func Qh #[] #[Qf,(vP 6427 0),Qe])]
def Zh:Nat×AObj:=row 6432 0 [some (.func Qh #[] #[Qf,(vP 6430 0),Qe])]
def Zg:Nat×AObj:=row 6435 0 [some (.func Qh #[] #[Qf,(vP 6433 0),Qe])]
def Zf:Nat×AObj:=row 6438 0 [some (.func Qh #[] #[Qf,(vP 6436 0),Qe])]
def Ze:Nat×AObj:=row 6441 0 [some (.func Qh #[] #[Qf,(vP 6439 0),Qe])]
def Zd:Nat×AObj:=row 6444 0 [some (.func Qh #[] #[Qf,(vP 6442 0),Qe])]
def Wk:Value:=(.func Qh #[] #[Qf,(vP 6445 0),Qe])
def Zc:Nat×AObj:=row 6447 0 [some Wk]
def K3:Nat×AObj:=row 6450 0 [some (.func Qh #[] #[Qf,(vP 6448 0),Qe])]
def Zb:Nat×AObj:=row 6453 0 [some (.func Qh #[] #[Qf,(vP 6451 0),Qe])]
def K2:Nat×AObj:=row 6456 0 [some (.func Qh #[] #[Qf,(vP 6454 0),Qe])]
def K0:Nat×AObj:=row 6459 0 [some (.func Qh #[] #[Qf,(vP 6457 0),Qe])]
def Kz:Nat×AObj:=row 6462 0 [some (.func Qh #[] #[Qf,(vP 6460 0),Qe])]
def Ky:Nat×AObj:=row 6465 0 [some (.func Qh #[] #[Qf,(vP 6463 0),Qe])]
def Kx:Nat×AObj:=row 6468 0 [some (.func Qh #[] #[Qf,(vP 6466 0),Qe])]
def Kw:Nat×AObj:=row 6471 0 [some (.func Qh #[] #[Qf,(vP 6469 0),Qe])]
def Kv:Nat×AObj:=row 6474 0 [some (.func Qh #[] #[Qf,(vP 6472 0),Qe])]
def Ku:Nat×AObj:=row 6477 0 [some (.func Qh #[] #[Qf,(vP 6475 0),Qe])]
def Kt:Nat×AObj:=row 6480 0 [some (.func Qh #[] #[Qf,(vP 6478 0),Qe])]
def Ks:Nat×AObj:=row 6483 0 [some (.func Qh #[] #[Qf,(vP 6481 0),Qe])]
def Kr:Nat×AObj:=row 6486 0 [some (.func Qh #[] #[Qf,(vP 6484 0),Qe])]
def Kq:Nat×AObj:=row 6489 0 [some (.func Qh #[] #[Qf,(vP 6487 0),Qe])]
def Kp:Nat×AObj:=row 6492 0 [some (.func Qh #[] #[Qf,(vP 6490 0),Qe])]
def Ko:Nat×AObj:=row 6495 0 [some (.func Qh #[] #[Qf,(vP 6493 0),Qe])]
def Kn:Nat×AObj:=row 6498 0 [some (.func Qh #[] #[Qf,(vP 6496 0),Qe])]
def Km:Nat×AObj:=row 6501 0 [some (.func Qh #[] #[Qf,(vP 6499 0),Qe])]
def Kl:Nat×AObj:=row 6504 0 [some (.func Qh #[] #[Qf,(vP 6502 0),Qe])]
def Kk:Nat×AObj:=row 6507 0 [some (.func Qh #[] #[Qf,(vP 6505 0),Qe])]
def Kj:Nat×AObj:=row 6510 0 [some (.func Qh #[] #[Qf,(vP 6508 0),Qe])]
def Ki:Nat×AObj:=row 6513 0 [some (.func Qh #[] #[Qf,(vP 6511 0),Qe])]
def Wj:Value:=(.func Qh #[] #[Qf,(vP 6514 0),Qe])
def Kh:Nat×AObj:=row 6516 0 [some Wj]
def Wd:Nat×AObj:=row 6519 0 [some (.func Qh #[] #[Qf,(vP 6517 0),Qe])]
def Wc:Nat×AObj:=row 6522 0 [some (.func Qh #[] #[Qf,(vP 6520 0),Qe])]
def Wb:Nat×AObj:=row 6525 0 [some (.func Qh #[] #[Qf,(vP 6523 0),Qe])]
def Wa:Nat×AObj:=row 6528 0 [some (.func Qh #[] #[Qf,(vP 6526 0),Qe])]
def V9:Nat×AObj:=row 6531 0 [some (.func Qh #[] #[Qf,(vP 6529 0),Qe])]
def V8:Nat×AObj:=row 6534 0 [some (.func Qh #[] #[Qf,(vP 6532 0),Qe])]
def V7:Nat×AObj:=row 6537 0 [some (.func Qh #[] #[Qf,(vP 6535 0),Qe])]
def V6:Nat×AObj:=row 6540 0 [some (.func Qh #[] #[Qf,(vP 6538 0),Qe])]
def V5:Nat×AObj:=row 6543 0 [some (.func Qh #[] #[Qf,(vP 6541 0),Qe])]
def V4:Nat×AObj:=row 6546 0 [some (.func Qh #[] #[Qf,(vP 6544 0),Qe])]
def V3:Nat×AObj:=row 6549 0 [some (.func Qh #[] #[Qf,(vP 6547 0),Qe])]
def V2:Nat×AObj:=row 6552 0 [some (.func Qh #[] #[Qf,(vP 6550 0),Qe])]
def V1:Nat×AObj:=row 6555 0 [some (.func Qh #[] #[Qf,(vP 6553 0),Qe])]
def V0:Nat×AObj:=row 6558 0 [some (.func Qh #[] #[Qf,(vP 6556 0),Qe])]
def Vz:Nat×AObj:=row 6561 0 [some (.func Qh #[] #[Qf,(vP 6559 0),Qe])]
def Vy:Nat×AObj:=row 6564 0 [some (.func Qh #[] #[Qf,(vP 6562 0),Qe])]
def Vx:Nat×AObj:=row 6567 0 [some (.func Qh #[] #[Qf,(vP 6565 0),Qe])]
def Vw:Nat×AObj:=row 6570 0 [some (.func Qh #[] #[Qf,(vP 6568 0),Qe])]
def Vv:Nat×AObj:=row 6573 0 [some (.func Qh #[] #[Qf,(vP 6571 0),Qe])]
def Vu:Nat×AObj:=row 6576 0 [some (.func Qh #[] #[Qf,(vP 6574 0),Qe])]
def Vt:Nat×AObj:=row 6579 0 [some (.func Qh #[] #[Qf,(vP 6577 0),Qe])]
def Vs:Nat×AObj:=row 6582 0 [some (.func Qh #[] #[Qf,(vP 6580 0),Qe])]
def Wi:Value:=(.func Qh #[] #[Qf,(vP 6583 0),Qe])
def Vr:Nat×AObj:=row 6585 0 [some Wi]
def Dj:Nat×AObj:=row 6588 0 [some (.func Qh #[] #[Qf,(vP 6586 0),Qe])]
def Di:Nat×AObj:=row 6591 0 [some (.func Qh #[] #[Qf,(vP 6589 0),Qe])]
def Dh:Nat×AObj:=row 6594 0 [some (.func Qh #[] #[Qf,(vP 6592 0),Qe])]
def Dg:Nat×AObj:=row 6597 0 [some (.func Qh #[] #[Qf,(vP 6595 0),Qe])]
def Df:Nat×AObj:=row 6600 0 [some (.func Qh #[] #[Qf,(vP 6598 0),Qe])]
def De:Nat×AObj:=row 6603 0 [some (.func Qh #[] #[Qf,(vP 6601 0),Qe])]
def Dd:Nat×AObj:=row 6606 0 [some (.func Qh #[] #[Qf,(vP 6604 0),Qe])]
def Dc:Nat×AObj:=row 6609 0 [some (.func Qh #[] #[Qf,(vP 6607 0),Qe])]
def Db:Nat×AObj:=row 6612 0 [some (.func Qh #[] #[Qf,(vP 6610 0),Qe])]
def Da:Nat×AObj:=row 6615 0 [some (.func Qh #[] #[Qf,(vP 6613 0),Qe])]
def H7:Nat×AObj:=row 6618 0 [some (.func Qh #[] #[Qf,(vP 6616 0),Qe])]
def H0:Nat×AObj:=row 6621 0 [some (.func Qh #[] #[Qf,(vP 6619 0),Qe])]
def Hz:Nat×AObj:=row 6624 0 [some (.func Qh #[] #[Qf,(vP 6622 0),Qe])]
def Hy:Nat×AObj:=row 6627 0 [some (.func Qh #[] #[Qf,(vP 6625 0),Qe])]
def Hx:Nat×AObj:=row 6630 0 [some (.func Qh #[] #[Qf,(vP 6628 0),Qe])]
def Hw:Nat×AObj:=row 6633 0 [some (.func Qh #[] #[Qf,(vP 6631 0),Qe])]
def Hv:Nat×AObj:=row 6636 0 [some (.func Qh #[] #[Qf,(vP 6634 0),Qe])]
def Hu:Nat×AObj:=row 6639 0 [some (.func Qh #[] #[Qf,(vP 6637 0),Qe])]
def Ht:Nat×AObj:=row 6642 0 [some (.func Qh #[] #[Qf,(vP 6640 0),Qe])]
def Hs:Nat×AObj:=row 6645 0 [some (.func Qh #[] #[Qf,(vP 6643 0),Qe])]
def Hq:Nat×AObj:=row 6648 0 [some (.func Qh #[] #[Qf,(vP 6646 0),Qe])]
def Hp:Nat×AObj:=row 6651 0 [some Gr]
def Xf:=vP 2824 0
def Za:Value:=(.func (.func 115) #[] #[Xf,(vP 3172 0),(vP 3171 0),(vP 3173 0)])
def Y9:Value:=(.func (.func 140) #[] #[Yw,(vP 4583 0),Xd,(vP 4584 0)])
def Xz:=vP 4573 0
def Kf:Value:=(.func (.func 115) #[] #[Xz,(vP 4921 0),(vP 4920 0),(vP 4922 0)])
def Ho:AI:=(cd 58 [1,1,0,1,0,0,1,1,0,0,1,1,0,0,1,1,1])
def Xt:Value:=(.func (.func 109) #[] #[])
def X7:Value:=(.func (.func 110) #[] #[])
def Hn:Value:=(.agg #[Xt,X7])
def Xl:Value:=(.func (.func 107) #[] #[])
def X3:Value:=(.func (.func 108) #[] #[])
def Y8:Value:=(.agg #[Xl,X3])
def Ys:AI:=(cd 14 [1,1,1,1,1,1,1,1,1,1,1,1,1,1,1])
def Yv:Fn:=(.func 125)
def Y7:Value:=(.func Yv #[] #[(vP 1382 0),(vP 1383 0),(vP 1384 0)])
def Gq:Value:=(.func Yv #[] #[(vP 1394 0),(vP 1395 0),(vP 1396 0)])
def Hl:Value:=(.func Yv #[] #[(vP 1388 0),(vP 1389 0),(vP 1390 0)])
def Vq:Value:=(.func Yv #[] #[(vP 2063 0),(vP 2064 0),(vP 2065 0)])
def Gp:Value:=(.func Yv #[] #[(vP 2075 0),(vP 2076 0),(vP 2077 0)])
def Hk:Value:=(.func Yv #[] #[(vP 2069 0),(vP 2070 0),(vP 2071 0)])
def Ke:Value:=(.func Xv #[] #[(vP 5990 0),(vP 5991 0),(vP 5992 0)])
def Hj:Value:=(.func Xv #[] #[(vP 5968 0),(vP 5969 0),(vP 5970 0)])
def Hi:Value:=(.func Xv #[] #[(vP 5971 0),(vP 5972 0),(vP 5973 0)])
def Hh:Value:=(.func Xv #[] #[(vP 5974 0),(vP 5975 0),(vP 5976 0)])
def Hg:Value:=(.func Xv #[] #[(vP 5981 0),(vP 5982 0),(vP 5983 0)])
def Hf:Value:=(.func Xv #[] #[(vP 5984 0),(vP 5985 0),(vP 5986 0)])
def He:Value:=(.func Xv #[] #[(vP 5987 0),(vP 5988 0),(vP 5989 0)])
def Yr:AI:=(rg 14 [1,1,1,1,1,1,1,1,1,1,1,1,1,1,0] 1)
def Gn:Value:=(.func Yv #[] #[(vP 705 0),(vP 706 0),(vP 707 0)])
def Vp:Value:=(.tuple #[X4,vF])
def Zv:Value:=(.agg #[vT,vT,vF,vT,vT,vF,vF,vF,vF])
def Hd:Value:=(.tuple #[Zv,vT])
def Wf:Value:=(.agg #[vT,vF,vF,vF,vT,vT,vF,vF,vF])
def Hc:Value:=(.tuple #[Wf,vT])
def We:Value:=(.agg #[vT,vF,vF,vT,vT,vT,vF,vF,vF])
def Hb:Value:=(.tuple #[We,vT])
def Vo:Value:=(.agg #[Qi,Qn,Qg,Qi,(vS 6659 0 4 4)])
def Ha:Code:=(ca 58 [1,1,0,1,0,0,1,1,0,0,1,1,0,0])
def Gm:AI:=(cd 115 [1,1,0,1,0,1,0,0,1,1,1])
def Yx:Value:=(.agg #[(vI 38),(vI 48)])
def Vn:Value:=(.tuple #[(vI 14),Yx,Qa])
def Gl:AI:=(cd 98 [1,0,1,0,0,1,1,0,0,1,1])
def X6:AI:=(cd 55 [1,0,1,0,0,1,1,0,0,1,1])
def Gk:AI:=(rg 93 [1,1,1,0,1,0,0,1,1,0,0,1] 1)
def Gj:AI:=(cd 140 [1,1,0,1,0,0,1,0,0,1])
def G9:AI:=(rg 101 [1,1,0,1,0,0,1,1,0,0,1] 5)
def Gi:AI:=(cd 93 [1,1,1,0,1,0,0,1,1,1])
def G8:Value:=(.agg #[(vI 20),(vI 70),(vI 70),Qa,Qa])
def Gh:AI:=(rg 98 [1,0,1,0,0,1,1,0,0,1,0] 2)
def X5:AI:=(rg 55 [1,0,1,0,0,1,1,0,0,1,0] 1)
def G6:Value:=(.func (.func 99) #[] #[(vP 1299 0),(vP 1298 0)])
def G5:Value:=(.func (.func 99) #[] #[(vP 1931 0),(vP 1930 0)])
def G4:Nat×AObj:=row 6654 0 [oI 2,oI 4,oI 1,oI 2,oS 6659 0 4 4]
def G3:AI:=(cd 101 [1,1,0,1,0,0,1,1,1])
def Gg:Nat×AObj:=row 2199 0 [oI 10,oI 2,oI 5,oI 3,oS 22 0 7 7]
def Gf:Nat×AObj:=row 2200 0 [oI 10,oI 2,oI 5,oI 3,oS 22 0 7 7]
def Ge:Nat×AObj:=row 3943 0 [oI 10,oI 2,oI 5,oI 3,oS 22 0 7 7]
def Gd:Nat×AObj:=row 3944 0 [oI 10,oI 2,oI 5,oI 3,oS 22 0 7 7]
def Gc:Nat×AObj:=row 3945 0 [oI 10,oI 2,oI 5,oI 3,oS 22 0 7 7]
def G2:Value:=(.func (.func 99) #[] #[(vP 667 0),(vP 666 0)])
def G1:AI:=(cd 58 [1,1,0,1,0,0,1,1,1])
def Yp:Nat×AObj:=row 6258 0 [oI 2,oI 4,oI 1,oI 2,oS 27 0 3 3]
def Yo:Nat×AObj:=row 6262 0 [oI 2,oI 4,oI 1,oI 2,oS 27 0 3 3]
def Yn:Nat×AObj:=row 6375 0 [oI 2,oI 4,oI 1,oI 2,oS 27 0 3 3]
def Qx:Nat×AObj:=row 28 0 [oI 10,oI 2,oI 5,oI 3,oS 22 0 7 7]
def Qw:Nat×AObj:=row 29 0 [oI 2,oI 4,oI 1,oI 2,oS 27 0 3 3]
def Ga:AI:=(cd 140 [1,1,0,1,0,0,1,1])
def W9:AI:=(cd 98 [1,0,1,0,0,1,1,1])
def Xr:AI:=(cd 55 [1,0,1,0,0,1,1,1])
def W8:AI:=(cd 14 [1,1,1,1,1,1,1,1])
def W7:Value:=(.agg #[vT,vF,vF,vF,vF,vF,vF,vF,vF])
def W6:Value:=(.agg #[vT,vF,vF,vT,vF,vF,vF,vF,vF])
def W5:AI:=(cd 14 [1,1,1,1,1,1,1])
def W4:AI:=(cd 28 [1,1,0,1,1,0,1])
def Q8:Nat×AObj:=row 3199 1 [oS 2843 0 3 3,oS 3058 0 3 3]
def W3:AI:=(rg 14 [1,1,1,1,1,1,1,0] 1)
def Ym:AI:=(cd 52 [1,1,1,1,1,1])
def W2:Value:=(.func (.func 160) #[] #[(vP 1377 0)])
def W0:Value:=(.func (.func 160) #[] #[(vP 2056 0)])
def Wz:AI:=(rg 14 [1,1,1,1,1,1,0] 1)
def Wy:Code:=(ca 115 [1,1,0,1,0,1,0,0])
def Wx:Value:=(.func (.func 160) #[] #[(vP 702 0)])
def Yl:AI:=(rg 52 [1,1,1,1,1,0] 1)
def X1:=vS 6807 0 2 2
def Vm:Value:=(.tuple #[X1,Qa])
def Y2:=vS 6950 0 3 3
def Vl:Value:=(.tuple #[Y2,Qa])
def Ww:Code:=(ca 93 [1,1,1,0,1,0,0])
def Wv:AI:=(cd 25 [1,1,1,1])
def Wu:AI:=(cd 93 [1,1,1,1])
def Wt:Code:=(ca 140 [1,1,0,1,0,0])
def Ws:AI:=(cd 115 [1,1,1])
def Wr:AI:=(cd 140 [1,1,1])
def Wq:AI:=(cd 93 [1,1,1])
def Q1:Nat×AObj:=row 1927 0 [oI 0,oI 2,oI 3]
def Q5:Nat×AObj:=row 2843 1 [oI 0,oI 1,oI 2]
def Q4:Nat×AObj:=row 3058 1 [oI 3,oI 4,oI 5]
def Wp:Value:=(.func (.yield 4582) #[] #[])
def Wo:Code:=(ca 98 [1,0,1,0,0])
def Xq:Code:=(ca 55 [1,0,1,0,0])
def Yk:Value:=(.func (.func 105) #[] #[])
def Y0:Value:=(.func (.func 106) #[] #[])
def Wm:AI:=(cd 98 [1,1])
def Xp:AI:=(cd 55 [1,1])
def Wl:AI:=(cd 56 [1,1])
def Qu:Nat×AObj:=row 30 0 [oI 0,oI 1,oI 2]
def Xo:Nat×AObj:=row 5531 0 [oI 93,oI 102]
def Xn:Nat×AObj:=row 5674 0 [oI 93,oI 100]
def Xm:Nat×AObj:=row 5817 0 [oI 73,oI 80]
def Qz:Nat×AObj:=row 1295 0 [oI 0,oI 6]
def Yj:Nat×AObj:=row 6261 0 [oI 0,oI 0]
def Qt:Nat×AObj:=row 663 0 [oI 0,oI 3]
def Kd:Nat×AObj:=row 6380 0 [oP 6378 0]
def Kc:Nat×AObj:=row 6383 0 [oP 6378 0]
def Kb:Nat×AObj:=row 6386 0 [oP 6378 0]
def Ka:Nat×AObj:=row 6389 0 [oP 6378 0]
def J9:Nat×AObj:=row 6392 0 [oP 6378 0]
def J8:Nat×AObj:=row 6395 0 [oP 6378 0]
def J7:Nat×AObj:=row 6398 0 [oP 6378 0]
def J6:Nat×AObj:=row 6401 0 [oP 6378 0]
def J5:Nat×AObj:=row 6404 0 [oP 6378 0]
def J4:Nat×AObj:=row 6407 0 [oP 6378 0]
def J3:Nat×AObj:=row 6410 0 [oP 6378 0]
def J2:Nat×AObj:=row 6413 0 [oP 6378 0]
def J1:Nat×AObj:=row 6416 0 [oP 6378 0]
def J0:Nat×AObj:=row 6419 0 [oP 6378 0]
def Jz:Nat×AObj:=row 6422 0 [oP 6378 0]
def Jy:Nat×AObj:=row 6425 0 [oP 6378 0]
def Jx:Nat×AObj:=row 6428 0 [oP 6378 0]
def Jw:Nat×AObj:=row 6431 0 [oP 6378 0]
def Jv:Nat×AObj:=row 6434 0 [oP 6378 0]
def Ju:Nat×AObj:=row 6437 0 [oP 6378 0]
def Jt:Nat×AObj:=row 6440 0 [oP 6378 0]
def Js:Nat×AObj:=row 6443 0 [oP 6378 0]
def Jr:Nat×AObj:=row 6446 0 [oP 6378 0]
def Vk:Nat×AObj:=row 6449 0 [oP 6378 0]
def Vj:Nat×AObj:=row 6452 0 [oP 6378 0]
def Vi:Nat×AObj:=row 6455 0 [oP 6378 0]
def Vh:Nat×AObj:=row 6458 0 [oP 6378 0]
def Vg:Nat×AObj:=row 6461 0 [oP 6378 0]
def Vf:Nat×AObj:=row 6464 0 [oP 6378 0]
def Ve:Nat×AObj:=row 6467 0 [oP 6378 0]
def Vd:Nat×AObj:=row 6470 0 [oP 6378 0]
def Vb:Nat×AObj:=row 6473 0 [oP 6378 0]
def Va:Nat×AObj:=row 6476 0 [oP 6378 0]
def U9:Nat×AObj:=row 6479 0 [oP 6378 0]
def U8:Nat×AObj:=row 6482 0 [oP 6378 0]
def U7:Nat×AObj:=row 6485 0 [oP 6378 0]
def U6:Nat×AObj:=row 6488 0 [oP 6378 0]
def U5:Nat×AObj:=row 6491 0 [oP 6378 0]
def U4:Nat×AObj:=row 6494 0 [oP 6378 0]
def U3:Nat×AObj:=row 6497 0 [oP 6378 0]
def U2:Nat×AObj:=row 6500 0 [oP 6378 0]
def U1:Nat×AObj:=row 6503 0 [oP 6378 0]
def U0:Nat×AObj:=row 6506 0 [oP 6378 0]
def Uz:Nat×AObj:=row 6509 0 [oP 6378 0]
def Uy:Nat×AObj:=row 6512 0 [oP 6378 0]
def Ux:Nat×AObj:=row 6515 0 [oP 6378 0]
def Y5:Nat×AObj:=row 6378 0 [oU,oU]
def Yi:Nat×AObj:=row 6259 0 [oI 10]
def Yh:Nat×AObj:=row 6260 0 [oI 30]
def Yg:Nat×AObj:=row 6263 0 [oI 10]
def Yf:Nat×AObj:=row 6265 0 [oI 90]
def Ye:Nat×AObj:=row 6266 0 [oI 30]
def Yd:Nat×AObj:=row 6268 0 [oI 90]
def Jq:Nat×AObj:=row 6409 0 [oI 10]
def Jp:Nat×AObj:=row 6412 0 [oI 11]
def Jo:Nat×AObj:=row 6415 0 [oI 12]
def Jn:Nat×AObj:=row 6418 0 [oI 13]
def Jm:Nat×AObj:=row 6421 0 [oI 14]
def Jl:Nat×AObj:=row 6424 0 [oI 15]
def Jj:Nat×AObj:=row 6427 0 [oI 16]
def Ji:Nat×AObj:=row 6430 0 [oI 17]
def Jh:Nat×AObj:=row 6433 0 [oI 18]
def Jg:Nat×AObj:=row 6436 0 [oI 19]
def Jf:Nat×AObj:=row 6439 0 [oI 20]
def Je:Nat×AObj:=row 6442 0 [oI 21]
def Jd:Nat×AObj:=row 6445 0 [oI 22]
def Uw:Nat×AObj:=row 6448 0 [oI 23]
def Uv:Nat×AObj:=row 6451 0 [oI 24]
def Uu:Nat×AObj:=row 6454 0 [oI 25]
def Ut:Nat×AObj:=row 6457 0 [oI 26]
def Us:Nat×AObj:=row 6460 0 [oI 27]
def Ur:Nat×AObj:=row 6463 0 [oI 28]
def Uq:Nat×AObj:=row 6466 0 [oI 29]
def Up:Nat×AObj:=row 6469 0 [oI 30]
def Uo:Nat×AObj:=row 6472 0 [oI 31]
def Un:Nat×AObj:=row 6475 0 [oI 32]
def Um:Nat×AObj:=row 6478 0 [oI 33]
def Ul:Nat×AObj:=row 6481 0 [oI 34]
def Uk:Nat×AObj:=row 6484 0 [oI 35]
def Uj:Nat×AObj:=row 6487 0 [oI 36]
def Ui:Nat×AObj:=row 6490 0 [oI 37]
def Uh:Nat×AObj:=row 6493 0 [oI 38]
def Ug:Nat×AObj:=row 6496 0 [oI 39]
def Uf:Nat×AObj:=row 6499 0 [oI 40]
def Ue:Nat×AObj:=row 6502 0 [oI 41]
def Ud:Nat×AObj:=row 6505 0 [oI 42]
def Uc:Nat×AObj:=row 6508 0 [oI 43]
def Ub:Nat×AObj:=row 6511 0 [oI 44]
def Ua:Nat×AObj:=row 6514 0 [oI 45]
def Xa:Nat×AObj:=row 3942 1 [oI 6]
def Yc:Nat×AObj:=row 6264 0 [oI 0]
def Yb:Nat×AObj:=row 6267 0 [oI 0]
def Jb:Nat×AObj:=row 6379 0 [oI 0]
def Ja:Nat×AObj:=row 6382 0 [oI 1]
def Z9:Nat×AObj:=row 6385 0 [oI 2]
def Z8:Nat×AObj:=row 6388 0 [oI 3]
def Z7:Nat×AObj:=row 6391 0 [oI 4]
def Z6:Nat×AObj:=row 6394 0 [oI 5]
def Z5:Nat×AObj:=row 6397 0 [oI 6]
def Z3:Nat×AObj:=row 6400 0 [oI 7]
def Z2:Nat×AObj:=row 6403 0 [oI 8]
def Z1:Nat×AObj:=row 6406 0 [oI 9]
def Z0:=vS 1398 0 3 3
def Zz:=vS 2079 0 3 3
def Zy:=vS 2956 0 3 3
def Xh:=vP 5980 0
def Qs:=vI 6
end Go.Proofs.Tryz
end
end
