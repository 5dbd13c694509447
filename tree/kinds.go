package tree

import "patina/api"

// group is a set of kinds, a bit for each: no kind is above 63.
type group uint64

const (
	anItem     group = 1<<api.KFn | 1<<api.KStruct | 1<<api.KEnum
	aField     group = 1 << api.KField
	aVariant   group = 1 << api.KVariant
	aParam     group = 1 << api.KParam
	aType      group = 1<<api.KTyInt | 1<<api.KTyBool | 1<<api.KTyUnit | 1<<api.KTyName | 1<<api.KTyRef | 1<<api.KTyMut | 1<<api.KTyBox
	aBlock     group = 1 << api.KBlock
	aBranch    group = aBlock | 1<<api.KIf // what may stand behind else
	aStatement group = 1<<api.KLet | 1<<api.KDo | 1<<api.KSet | 1<<api.KWhile | 1<<api.KReturn | 1<<api.KBreak | 1<<api.KNext
	aPlain     group = 1<<api.KNum | 1<<api.KTruth | 1<<api.KNil | 1<<api.KVar | 1<<api.KCall | 1<<api.KPick | 1<<api.KNew // operands without parentheses
	anExpr     group = aPlain | aBranch | 1<<api.KMake | 1<<api.KBin | 1<<api.KNeg | 1<<api.KNot | 1<<api.KGet | 1<<api.KStar | 1<<api.KBorrow | 1<<api.KMatch
	anInit     group = 1 << api.KInit
	anArm      group = 1 << api.KArm
	aPattern   group = 1<<api.KPAny | 1<<api.KPVar | 1<<api.KPNum | 1<<api.KPTruth | 1<<api.KPPick
)

func (g group) has(kind int) bool { return kind >= 0 && kind < 64 && g>>kind&1 == 1 }
