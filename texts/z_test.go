package texts_test

import (
	"reflect"
	"slices"
	"strings"
	"testing"
	"unsafe"

	"scanfail/api"
	"scanfail/texts"
)

// odd are texts and numbers of which something may be expected to go wrong.
var (
	oddTexts   = []string{"", "a", "aa", "ab ", "\x00", "\xff\xfe", "é", full, over}
	oddNumbers = append([]int{-2, -1, 0, 1, 2, 3, api.MaxText - 1, api.MaxText, api.MaxText + 1}, far...)
)

// everyCall asks all functions with all odd arguments, and tells what came.
func everyCall(tell func(answer any, err api.Errno)) {
	text := func(s string, err api.Errno) { tell(s, err) }
	number := func(n int, err api.Errno) { tell(n, err) }
	list := func(l []string, err api.Errno) { tell(l, err) }
	for _, s := range oddTexts {
		text(texts.Trim(s))
		text(texts.Reverse(s))
		for _, n := range oddNumbers {
			text(texts.Dupl(s, n))
			text(texts.Rotate(s, n))
			for _, m := range oddNumbers {
				text(texts.Substr(s, n, m))
			}
			for _, fill := range oddTexts {
				text(texts.Lpad(s, n, fill))
				text(texts.Rpad(s, n, fill))
			}
		}
		for _, o := range oddTexts {
			number(texts.Compare(s, o))
			number(texts.Count(s, o))
			list(texts.Split(s, o))
			text(texts.Join([]string{s, o, s}, o))
			for _, to := range oddTexts {
				text(texts.Replace(s, o, to))
			}
		}
	}
}

// No call panics; beside an error there is nothing; no text that is answered is too long; and the same is answered again.
func TestZ1AndZ4(t *testing.T) {
	var first []any
	everyCall(func(answer any, err api.Errno) {
		first = append(first, answer)
		if err != api.OK && reflect.ValueOf(answer).Kind() != reflect.Slice && !reflect.ValueOf(answer).IsZero() {
			t.Errorf("beside error %d there is %v", err, answer)
		}
		if l, ok := answer.([]string); ok && err != api.OK && len(l) != 0 {
			t.Errorf("beside error %d there are %d pieces", err, len(l))
		}
		if s, ok := answer.(string); ok && len(s) > api.MaxText {
			t.Errorf("a text of %d bytes is answered", len(s))
		}
	})
	at := 0
	everyCall(func(answer any, _ api.Errno) {
		if !reflect.DeepEqual(answer, first[at]) {
			t.Errorf("call %d answers otherwise the second time", at)
		}
		at++
	})
}

func TestZ2JoinOnlyReads(t *testing.T) {
	room := []string{"a", "b", "c", "spare", "room"}
	before := slices.Clone(room)
	got, err := texts.Join(room[:3], ",")
	wantText(t, "Join", got, err, "a,b,c")
	if !slices.Equal(room, before) {
		t.Errorf("Join has changed its list: %q", room)
	}
	room[0] = "x"
	wantText(t, "Join, its list changed afterwards", got, err, "a,b,c")
}

// shares tells whether two texts lie, in part, in the same memory.
func shares(a, b string) bool {
	if a == "" || b == "" {
		return false
	}
	p, q := uintptr(unsafe.Pointer(unsafe.StringData(a))), uintptr(unsafe.Pointer(unsafe.StringData(b)))
	return p < q+uintptr(len(b)) && q < p+uintptr(len(a))
}

func TestZ2AnswersAreNewMemory(t *testing.T) {
	arg := strings.Repeat("word,", 10)
	answers := map[string]func() (string, api.Errno){
		"Trim":    func() (string, api.Errno) { return texts.Trim(arg) },
		"Dupl":    func() (string, api.Errno) { return texts.Dupl(arg, 1) },
		"Reverse": func() (string, api.Errno) { return texts.Reverse(arg) },
		"Replace": func() (string, api.Errno) { return texts.Replace(arg, "x", "y") },
		"Substr":  func() (string, api.Errno) { return texts.Substr(arg, 2, 20) },
		"Lpad":    func() (string, api.Errno) { return texts.Lpad(arg, 1, " ") },
		"Rpad":    func() (string, api.Errno) { return texts.Rpad(arg, 1, " ") },
		"Join":    func() (string, api.Errno) { return texts.Join([]string{arg}, ",") },
		"Rotate":  func() (string, api.Errno) { return texts.Rotate(arg, 0) },
	}
	for name, ask := range answers {
		got, err := ask()
		if err != api.OK || got == "" || shares(got, arg) {
			t.Errorf("%s: error %d, or its answer lies in what it was given", name, err)
		}
	}
	pieces, err := texts.Split(arg, ",")
	if err != api.OK || len(pieces) != 11 {
		t.Fatalf("Split: %d pieces, error %d", len(pieces), err)
	}
	for _, p := range pieces {
		if shares(p, arg) {
			t.Errorf("Split: %q lies in what it was given", p)
		}
	}
	again, _ := texts.Split(arg, ",")
	again[0] = "other"
	if pieces[0] != "word" {
		t.Errorf("two answers of Split share memory")
	}
}

func TestZ3NilIsEmpty(t *testing.T) {
	for _, sign := range []string{",", "", ",,"} {
		a, errA := texts.Join(nil, sign)
		b, errB := texts.Join([]string{}, sign)
		if a != b || errA != errB {
			t.Errorf("Join of nil with %q: %q, error %d; of an empty list: %q, error %d", sign, a, errA, b, errB)
		}
	}
}
