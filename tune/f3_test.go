package tune_test

import (
	"testing"

	"scanfail/api"
	"scanfail/sets"
)

var (
	none     = api.Set{}
	allBytes = sets.Not(none)
)

func TestF3Alone(t *testing.T) {
	for _, c := range []struct {
		p    string
		s    string
		null bool
	}{
		{"''", "", true},
		{"'a'", "a", false},
		{"'abc'", "a", false},
		{"'cba'", "c", false},
		{"LEN(0)", "", true},
		{"LEN(1)", "^", false},
		{"LEN(2)", "^", false},
		{"LEN(65536)", "^", false},
		{"ANY('cab')", "a-c", false},
		{"SPAN('cabbac')", "a-c", false},
		{"NOTANY('cab')", "^a-c", false},
		{"BREAK('cab')", "^a-c", true},
		{"BREAKX('cab')", "^", true},
		{"POS(0)", "", true},
		{"POS(3)", "", true},
		{"RPOS(0)", "", true},
		{"RPOS(3)", "", true},
		{"FENCE", "", true},
		{"@X", "", true},
		{"BAL", "^)", false},
		{"FAIL", "", false},
		{"ABORT", "", false},
		{"TAB(0)", "^", true},
		{"TAB(3)", "^", true},
		{"RTAB(0)", "^", true},
		{"RTAB(3)", "^", true},
		{"REM", "^", true},
		{"ARB", "^", true},
		{"*X", "^", true},
	} {
		p, s := pat(c.p), set(c.s)
		wantFirst(t, p, s, c.null)
		wantFirst(t, cond(p, "X"), s, c.null)
		wantFirst(t, imm(cond(p, "X"), "Y"), s, c.null)
		wantFirst(t, arbno(p), s, true)
		wantFirst(t, alt(p, bare(api.PatFail)), s, c.null)
		wantFirst(t, alt(bare(api.PatAbort), p), s, c.null)
		wantFirst(t, alt(p, lit("")), s, true)
		wantFirst(t, alt(p, lit("z")), sets.Union(s, set("z")), c.null)
		wantFirst(t, cat(lit("z"), p), set("z"), false)
		wantFirst(t, cat(lit(""), p), s, c.null)
		wantFirst(t, cat(bare(api.PatFail), p), none, false)
		behind := s
		if c.null {
			behind = sets.Union(s, set("z"))
		}
		wantFirst(t, cat(p, lit("z")), behind, false)
		wantFirst(t, cat(p, bare(api.PatFail)), s, false)
		wantFirst(t, cat(p, bare(api.PatFence)), s, c.null)
	}
}

// Of every byte.
func TestF3EachByte(t *testing.T) {
	for b := range 256 {
		s := string([]byte{byte(b)})
		of := sets.Of(s)
		wantFirst(t, lit(s), of, false)
		wantFirst(t, lit(s+"xyz"), of, false)
		wantFirst(t, text(api.PatAny, s), of, false)
		wantFirst(t, text(api.PatSpan, s), of, false)
		wantFirst(t, text(api.PatNotAny, s), sets.Not(of), false)
		wantFirst(t, text(api.PatBreak, s), sets.Not(of), true)
		wantFirst(t, text(api.PatBreakX, s), allBytes, true)
	}
	all := sets.Text(allBytes)
	wantFirst(t, text(api.PatAny, all), allBytes, false)
	wantFirst(t, text(api.PatNotAny, all), none, false)
	wantFirst(t, text(api.PatBreak, all), none, true)
}

func TestF3Cat(t *testing.T) {
	for _, c := range []struct {
		p    string
		s    string
		null bool
	}{
		{"'a' 'b'", "a", false},
		{"'' 'b'", "b", false},
		{"'' '' 'b' 'c'", "b", false},
		{"'' ''", "", true},
		{"'' LEN(0) POS(0) FENCE", "", true},
		{"@X 'a' FENCE", "a", false},
		{"POS(1) RPOS(1) ANY('xy') 'a'", "xy", false},
		// first bytes behind a kid that may be empty
		{"('' | 'a') 'b'", "ab", false},
		{"('a' | '') ('b' | '') 'c' 'd'", "a-c", false},
		{"('a' | '') ('b' | '')", "ab", true},
		{"('a' | '') ('b' | '') FAIL", "ab", false},
		{"('a' | '') FAIL 'b'", "a", false},
		{"('a' | '') ABORT ('b' | '')", "a", false},
		{"ARBNO('a') 'b'", "ab", false},
		{"ARBNO('a') ARBNO('b')", "ab", true},
		{"ARBNO('a' 'c') SPAN('bd')", "abd", false},
		{"BREAK('a-') 'a'", "^\\2d", false},
		{"BREAK('ab') 'a'", "^b", false},
		{"BREAK('ab') FENCE", "^ab", true},
		{"NOTANY('ab') 'a'", "^ab", false},
		{"BAL 'a'", "^)", false},
		{"BAL ')'", "^)", false},
		{"('' | BAL) ')'", "^", false},
		{"*P 'a' *P", "^", false},
		{"*P *P", "^", true},
		{"'a' *P", "a", false},
		{"TAB(5) 'a'", "^", false},
		{"FAIL 'a'", "", false},
		{"'a' FAIL 'b'", "a", false},
		{"'' FAIL 'b'", "", false},
		{"ABORT ''", "", false},
		{"('' | 'a') . X ('' | 'b') $ Y 'c'", "a-c", false},
		{"('' ('' 'a'))", "a", false},
		{"('' ('' | 'a')) 'b'", "ab", false},
	} {
		wantFirst(t, pat(c.p), set(c.s), c.null)
	}
}

func TestF3Alt(t *testing.T) {
	for _, c := range []struct {
		p    string
		s    string
		null bool
	}{
		{"'a' | 'b'", "ab", false},
		{"'a' | 'bc' | 'de'", "abd", false},
		{"'a' | 'ab'", "a", false},
		{"'' | 'a'", "a", true},
		{"'a' | ''", "a", true},
		{"'a' | '' | 'b'", "ab", true},
		{"FAIL | 'a'", "a", false},
		{"ABORT | 'a'", "a", false},
		{"'a' | ABORT | 'b'", "ab", false},
		{"FAIL | FAIL", "", false},
		{"FAIL | ''", "", true},
		{"NOTANY('ab') | 'a'", "^b", false},
		{"NOTANY('ab') | ANY('ba')", "^", false},
		{"BREAK('ab') | 'a'", "^b", true},
		{"LEN(0) | LEN(1)", "^", true},
		{"('a' | 'b') . X | 'c'", "a-c", false},
		{"('a' | ('b' | ('c' | '')))", "a-c", true},
		{"FENCE | 'a'", "a", true},
		{"'a' FAIL | 'b'", "ab", false},
	} {
		wantFirst(t, pat(c.p), set(c.s), c.null)
	}
}

func TestF3Wrong(t *testing.T) {
	for what, w := range wrongs() {
		wantWrong(t, what+", behind a byte", cat(lit("a"), w.p), w.err)
	}
}
