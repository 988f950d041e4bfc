package check

import "winch/api"

// body checks the body of a unit, or the statements of an action in it.
type body struct {
	*scope
	api.Body
	// loops is how many loops are open.
	loops    int
	isAction bool
}

// body checks the body of a unit.
func (s *survey) body(unit int) {
	s.scopeOfBody(unit)
}

// scopeOfBody checks the body of a unit, and returns its scope.
func (s *survey) scopeOfBody(unit int) *scope {
	b := &body{scope: newScope(s, unit), Body: s.p.Units[unit].Body}
	languages := map[int]func(){
		api.InText:    b.text,
		api.InList:    b.list,
		api.InLadder:  b.ladder,
		api.InDiagram: b.diagram,
		api.InChart:   b.chart,
	}
	languages[b.Lang]()
	return b.scope
}
