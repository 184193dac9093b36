package auto_test

import (
	"fmt"
	"slices"
	"strconv"
	"strings"
	"testing"

	"scanfail/api"
	"scanfail/auto"
)

// The models take other ways than the program: what is left of a pattern behind a byte is a set of patterns; states are told apart in rounds; the shortest text is looked for from its end on.

// wantLeast asks G2 of an automaton by the words of the promise.
func wantLeast(t *testing.T, a api.Auto) {
	t.Helper()
	if err := auto.Wrong(a); err != api.OK {
		t.Errorf("%s: error %d is wrong with it", tellAuto(a), err)
		return
	}
	if !slices.Equal(orderOfComing(a), upTo(len(a.Next))) {
		t.Errorf("%s: states are not numbered as one comes to them", tellAuto(a))
	}
	if n := slices.Max(toldApart(a)) + 1; n != len(a.Next) {
		t.Errorf("%s: %d states, of which %d differ", tellAuto(a), len(a.Next), n)
	}
	classes := map[string]int{}
	for b := range 256 {
		to := leadsTo(a, b)
		if _, ok := classes[to]; !ok {
			classes[to] = len(classes)
		}
		if a.Class[b] != classes[to] {
			t.Errorf("%s: byte %d has class %d; want %d", tellAuto(a), b, a.Class[b], classes[to])
		}
	}
	for s, row := range a.Next {
		if len(row) != len(classes) {
			t.Errorf("%s: state %d has %d Next; want %d", tellAuto(a), s, len(row), len(classes))
		}
	}
}

// orderOfComing are the states to which one comes, state by state, byte by byte.
func orderOfComing(a api.Auto) []int {
	out := []int{0}
	seen := make([]bool, len(a.Next))
	seen[0] = true
	for i := 0; i < len(out); i++ {
		for b := range 256 {
			if s := a.Next[out[i]][a.Class[b]]; !seen[s] {
				seen[s] = true
				out = append(out, s)
			}
		}
	}
	return out
}

func upTo(n int) []int {
	var out []int
	for i := range n {
		out = append(out, i)
	}
	return out
}

// leadsTo tells to which states a byte leads, from state to state.
func leadsTo(a api.Auto, b int) string {
	var out []byte
	for _, row := range a.Next {
		out = strconv.AppendInt(append(out, ' '), int64(row[a.Class[b]]), 10)
	}
	return string(out)
}

// toldApart numbers groups of states from which the same texts are accepted: in each round the texts are one byte longer.
func toldApart(a api.Auto) []int {
	group := make([]int, len(a.Next))
	groups := 1
	for {
		number := map[string]int{}
		next := make([]int, len(group))
		for s := range group {
			key := strconv.AppendBool(nil, a.Ends[s])
			for _, n := range append([]int{s}, a.Next[s]...) {
				key = append(key, byte(group[n]), byte(group[n]>>8))
			}
			if _, ok := number[string(key)]; !ok {
				number[string(key)] = len(number)
			}
			next[s] = number[string(key)]
		}
		if len(number) == groups && slices.Equal(group, next) {
			return group
		}
		group, groups = next, len(number)
	}
}

// left is what is still to be matched: pieces one behind the other.
type left []api.Pat

func (l left) key() string {
	var out strings.Builder
	for _, p := range l {
		fmt.Fprintf(&out, "%q;", fmt.Sprintf("%+v", p))
	}
	return out.String()
}

// nullable tells whether p matches nothing at all.
func nullable(p api.Pat) bool {
	switch p.Kind {
	case api.PatLit:
		return p.Text == ""
	case api.PatLen:
		return p.N == 0
	case api.PatArb, api.PatArbno:
		return true
	case api.PatCat:
		return !slices.ContainsFunc(p.Kids, func(kid api.Pat) bool { return !nullable(kid) })
	case api.PatAlt:
		return slices.ContainsFunc(p.Kids, nullable)
	}
	return false
}

// behind are what may be left behind byte b of p, and then of rest.
func behind(p api.Pat, rest left, b byte) []left {
	var out []left
	with := func(first ...api.Pat) { out = append(out, append(slices.Clone(first), rest...)) }
	switch p.Kind {
	case api.PatLit:
		if p.Text != "" && p.Text[0] == b {
			with(lit(p.Text[1:]))
		}
	case api.PatLen:
		if p.N > 0 {
			with(length(p.N - 1))
		}
	case api.PatAny, api.PatNotAny:
		if strings.Contains(p.Text, string([]byte{b})) == (p.Kind == api.PatAny) {
			with()
		}
	case api.PatArb:
		with(p)
	case api.PatAlt:
		for _, kid := range p.Kids {
			out = append(out, behind(kid, rest, b)...)
		}
	case api.PatArbno:
		out = behind(p.Kids[0], append(left{p}, rest...), b)
	case api.PatCat:
		for i, kid := range p.Kids {
			out = append(out, behind(kid, append(slices.Clone(p.Kids[i+1:]), rest...), b)...)
			if !nullable(kid) {
				break
			}
		}
	}
	return out
}

// modelState is all that may be left, each once, in order.
type modelState []left

func (m modelState) key() string {
	var keys []string
	for _, l := range m {
		keys = append(keys, l.key())
	}
	return strings.Join(keys, "|")
}

func (m modelState) ends() bool {
	return slices.ContainsFunc(m, func(l left) bool { return nullable(cat(l...)) })
}

func (m modelState) step(b byte) modelState {
	byKey := map[string]left{}
	for _, l := range m {
		for _, next := range behind(cat(l...), nil, b) {
			// What matches nothing but the empty text tells nothing.
			next = slices.DeleteFunc(next, func(p api.Pat) bool { return p.Kind == api.PatLit && p.Text == "" || p.Kind == api.PatLen && p.N == 0 })
			byKey[next.key()] = next
		}
	}
	var keys []string
	for k := range byKey {
		keys = append(keys, k)
	}
	slices.Sort(keys)
	var out modelState
	for _, k := range keys {
		out = append(out, byKey[k])
	}
	return out
}

// stands is, of each byte, one that stands for it: bytes that p does not name are all alike.
func stands(p api.Pat) [256]byte {
	text := namedText(p)
	var out [256]byte
	other := -1
	for b := range out {
		out[b] = byte(b)
		if strings.IndexByte(text, byte(b)) < 0 {
			if other < 0 {
				other = b
			}
			out[b] = byte(other)
		}
	}
	return out
}

// namedText holds the bytes that p names.
func namedText(p api.Pat) string {
	out := ""
	if p.Kind == api.PatLit || p.Kind == api.PatAny || p.Kind == api.PatNotAny {
		out = p.Text
	}
	for _, kid := range p.Kids {
		out += namedText(kid)
	}
	return out
}

// wantTakes walks through an automaton and the model at once: wherever one comes they agree, so they accept the same texts, of any length.
func wantTakes(t *testing.T, p api.Pat, a api.Auto) {
	t.Helper()
	type both struct {
		key   string
		state int
	}
	stand := stands(p)
	todo := []modelState{{left{p}}}
	at := []int{0}
	seen := map[both]bool{{todo[0].key(), 0}: true}
	for i := 0; i < len(todo); i++ {
		if todo[i].ends() != a.Ends[at[i]] {
			t.Errorf("Make of %s: %s: state %d ends %t, the model %t", tell(p), tellAuto(a), at[i], a.Ends[at[i]], todo[i].ends())
			return
		}
		var next [256]modelState
		var key [256]string
		for b, c := range stand {
			if int(c) == b {
				next[b] = todo[i].step(c)
				key[b] = next[b].key()
			}
			to := a.Next[at[i]][a.Class[b]]
			if k := (both{key[c], to}); !seen[k] {
				seen[k] = true
				todo, at = append(todo, next[c]), append(at, to)
			}
		}
	}
}

// wantPair walks through two automata and what was made of them at once.
func wantPair(t *testing.T, what string, a, b, made api.Auto, ends func(x, y bool) bool) {
	t.Helper()
	todo := [][3]int{{}}
	seen := map[[3]int]bool{todo[0]: true}
	for i := 0; i < len(todo); i++ {
		s := todo[i]
		if want := ends(a.Ends[s[0]], b.Ends[s[1]]); made.Ends[s[2]] != want {
			t.Errorf("%s of %s and %s: %s: state %d ends %t", what, tellAuto(a), tellAuto(b), tellAuto(made), s[2], !want)
			return
		}
		for c := range 256 {
			next := [3]int{a.Next[s[0]][a.Class[c]], b.Next[s[1]][b.Class[c]], made.Next[s[2]][made.Class[c]]}
			if !seen[next] {
				seen[next] = true
				todo = append(todo, next)
			}
		}
	}
}

// modelShortest asks of each state how far the end is, nearer ones first, and then takes the least byte that leads nearer.
func modelShortest(a api.Auto) (string, bool) {
	far := len(a.Next) + 1
	ahead := make([]int, len(a.Next))
	for s := range ahead {
		ahead[s] = far
		if a.Ends[s] {
			ahead[s] = 0
		}
	}
	for changed := true; changed; {
		changed = false
		for s, row := range a.Next {
			for _, c := range a.Class {
				if n := ahead[row[c]] + 1; n < ahead[s] {
					ahead[s], changed = n, true
				}
			}
		}
	}
	if ahead[0] >= far {
		return "", false
	}
	var out []byte
	for s := 0; ahead[s] > 0; {
		b := 0
		for ahead[a.Next[s][a.Class[b]]] != ahead[s]-1 {
			b++
		}
		out = append(out, byte(b))
		s = a.Next[s][a.Class[b]]
	}
	return string(out), true
}

// modelCount asks to which states how many texts lead, byte by byte from the beginning.
func modelCount(a api.Auto, n int) int {
	many := make([]int, len(a.Next))
	many[0] = 1
	for range n {
		next := make([]int, len(many))
		for s, row := range a.Next {
			for b := range 256 {
				next[row[a.Class[b]]] += many[s]
			}
		}
		many = next
	}
	sum := 0
	for s, ends := range a.Ends {
		if ends {
			sum += many[s]
		}
	}
	return sum
}
