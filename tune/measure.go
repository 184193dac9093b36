package tune

import (
	"scanfail/api"
	"scanfail/pats"
	"scanfail/sets"
)

// unsaid is how many bytes something matches at most, where that is not said.
const unsaid = -1

// extent is how few and how many bytes something matches, if it ever does.
type extent struct {
	may         bool
	least, most int
}

// just is the extent of what always matches so many.
func just(n int) extent { return extent{true, n, n} }

// Length is how few bytes p matches at least, and how many at most.
func Length(p api.Pat) (least, most int, err api.Errno) {
	if err := pats.Wrong(p); err != api.OK {
		return 0, 0, err
	}
	e := extentOf(p)
	if !e.may {
		return 0, 0, api.ErrNone
	}
	return e.least, e.most, api.OK
}

func extentOf(p api.Pat) extent {
	switch p.Kind {
	case api.PatLit:
		return just(len(p.Text))
	case api.PatLen:
		return just(p.N)
	case api.PatAny, api.PatNotAny:
		return just(1)
	case api.PatSpan, api.PatBal:
		return extent{true, 1, unsaid}
	case api.PatPos, api.PatRPos, api.PatFence, api.PatCursor:
		return just(0)
	case api.PatFail, api.PatAbort:
		return extent{}
	case api.PatCat:
		return extentOfCat(p.Kids)
	case api.PatAlt:
		return extentOfAlt(p.Kids)
	case api.PatCond, api.PatImm:
		return extentOf(p.Kids[0])
	case api.PatArbno:
		if kid := extentOf(p.Kids[0]); !kid.may || kid.most == 0 {
			return just(0)
		}
	}
	return extent{true, 0, unsaid}
}

func extentOfCat(kids []api.Pat) extent {
	sum := just(0)
	for _, kid := range kids {
		e := extentOf(kid)
		if !e.may {
			return extent{}
		}
		sum.least = min(sum.least+e.least, api.MaxText+1)
		if sum.most == unsaid || e.most == unsaid || sum.most+e.most > api.MaxText {
			sum.most = unsaid
		} else {
			sum.most += e.most
		}
	}
	return sum
}

func extentOfAlt(kids []api.Pat) extent {
	var all extent
	for _, kid := range kids {
		e := extentOf(kid)
		switch {
		case !e.may:
		case !all.may:
			all = e
		default:
			all.least = min(all.least, e.least)
			if all.most == unsaid || e.most == unsaid {
				all.most = unsaid
			} else {
				all.most = max(all.most, e.most)
			}
		}
	}
	return all
}

// First is with which bytes p may begin, and whether it may be empty.
func First(p api.Pat) (s api.Set, null bool, err api.Errno) {
	if err := pats.Wrong(p); err != api.OK {
		return api.Set{}, false, err
	}
	s, null = firstOf(p)
	return s, null, api.OK
}

func firstOf(p api.Pat) (s api.Set, null bool) {
	none, all := api.Set{}, sets.Not(api.Set{})
	switch p.Kind {
	case api.PatLit:
		return sets.Of(p.Text[:min(1, len(p.Text))]), p.Text == ""
	case api.PatLen:
		if p.N == 0 {
			return none, true
		}
		return all, false
	case api.PatAny, api.PatSpan:
		return sets.Of(p.Text), false
	case api.PatNotAny, api.PatBreak:
		return sets.Not(sets.Of(p.Text)), p.Kind == api.PatBreak
	case api.PatPos, api.PatRPos, api.PatFence, api.PatCursor:
		return none, true
	case api.PatBal:
		return sets.Not(sets.Of(")")), false
	case api.PatFail, api.PatAbort:
		return none, false
	case api.PatCat:
		return firstOfCat(p.Kids)
	case api.PatAlt:
		return firstOfAlt(p.Kids)
	case api.PatArbno:
		s, _ = firstOf(p.Kids[0])
		return s, true
	case api.PatCond, api.PatImm:
		return firstOf(p.Kids[0])
	}
	return all, true
}

func firstOfCat(kids []api.Pat) (s api.Set, null bool) {
	for _, kid := range kids {
		first, empty := firstOf(kid)
		s = sets.Union(s, first)
		if !empty {
			return s, false
		}
	}
	return s, true
}

func firstOfAlt(kids []api.Pat) (s api.Set, null bool) {
	for _, kid := range kids {
		first, empty := firstOf(kid)
		s, null = sets.Union(s, first), null || empty
	}
	return s, null
}
