package measure

import (
	"math"

	"winch/api"
	"winch/lexis"
)

// isExpression reports whether the fields of an expression are those that its operator needs, whatever its operands are.
func isExpression(e api.Expr) bool {
	if e.Op == api.EConst {
		return isConstant(e.Kind, e.N) && e.S == "" && e.Field == "" && len(e.Args) == 0
	}
	if e.Kind != 0 || e.N != 0 || (e.Op != api.EField && e.Field != "") {
		return false
	}
	switch {
	case e.Op == api.EName:
		return lexis.IsName(e.S) && len(e.Args) == 0
	case e.Op == api.EField:
		return lexis.IsName(e.S) && lexis.IsName(e.Field) && len(e.Args) == 0
	case e.Op == api.EIndex:
		return lexis.IsName(e.S) && len(e.Args) == 1
	case e.Op == api.ECall:
		return lexis.IsName(e.S)
	case e.Op == api.ENot || e.Op == api.ENeg:
		return e.S == "" && len(e.Args) == 1
	case e.Op >= api.EOr && e.Op <= api.EMod:
		return e.S == "" && len(e.Args) == 2
	}
	return false
}

// isConstant reports whether the grammar has a constant of this kind and value. (It has no negative ones.)
func isConstant(kind, n int) bool {
	switch kind {
	case api.KBool:
		return n == 0 || n == 1
	case api.KInt, api.KTime:
		return n >= 0 && n <= math.MaxInt32
	}
	return false
}
