package check_test

import (
	"strings"
	"testing"

	"scanfail/api"
	"scanfail/check"
)

// builtins are the functions of the language, by how many arguments they take.
var builtins = []string{
	1: "SIZE TRIM REVERSE ROOT INTEGER",
	2: "DUPL ROTATE COUNT EQ NE LT LE GT GE IDENT DIFFER LGT REMDR POWER GCD BASE UNBASE",
	3: "REPLACE SUBSTR LPAD RPAD",
}

// takes is how many arguments each function of the language takes.
func takes() map[string]int {
	out := map[string]int{}
	for n, l := range builtins {
		for _, s := range strings.Fields(l) {
			out[s] = n
		}
	}
	return out
}

func wantNone(t *testing.T, s string) {
	t.Helper()
	if got := check.Builtin(s); got >= 0 {
		t.Errorf("Builtin of %q: %d; want some number below 0", s, got)
	}
}

func TestK1Functions(t *testing.T) {
	known := takes()
	if len(known) != 26 {
		t.Fatalf("%d functions", len(known))
	}
	for s, want := range known {
		if got := check.Builtin(s); got != want {
			t.Errorf("Builtin of %q: %d; want %d", s, got, want)
		}
	}
}

func TestK1None(t *testing.T) {
	for _, s := range strings.Fields("X F A1 INPUT OUTPUT END RETURN FRETURN DEFINE S L ABS LLT LEQ LNE LLE LGE ADD SUB MUL DIV REM NEG CAT READ PRINT SQRT POW MOD UPPER LOWER SPLIT JOIN COMPARE APPLY ARRAY TABLE DATE LEN ANY NOTANY SPAN BREAK BREAKX TAB RTAB POS RPOS ARB BAL FAIL FENCE ABORT ARBNO SUBSTRING REVERSED") {
		wantNone(t, s)
	}
	for _, s := range []string{"", " ", "\x00", "0", "1", "()", ",", "SIZE TRIM", "EQ,NE", "SIZE()", "É", strings.Repeat("A", 17), strings.Repeat("SIZE", 20000)} {
		wantNone(t, s)
	}
}

// Names that differ from a function's by a sign, or by small letters.
func TestK1Near(t *testing.T) {
	known := takes()
	near := func(s string) {
		if _, there := known[s]; !there {
			wantNone(t, s)
		}
	}
	for s := range known {
		near(strings.ToLower(s))
		near(s[:1] + strings.ToLower(s[1:]))
		near(s + s)
		for at := range len(s) + 1 {
			for b := range 256 {
				near(s[:at] + string([]byte{byte(b)}) + s[at:])
				if at < len(s) {
					near(s[:at] + string([]byte{byte(b)}) + s[at+1:])
				}
			}
			if at < len(s) {
				near(s[:at] + s[at+1:])
				near(s[:at])
				near(s[at+1:])
				near(s[:at] + strings.ToLower(s[at:at+1]) + s[at+1:])
			}
		}
	}
}

// All names of up to four letters.
func TestK1ShortNames(t *testing.T) {
	known := takes()
	var each func(s string)
	each = func(s string) {
		if want, there := known[s]; there != (check.Builtin(s) >= 0) || there && check.Builtin(s) != want {
			t.Errorf("Builtin of %q: %d", s, check.Builtin(s))
		}
		for b := byte('A'); len(s) < 4 && b <= 'Z'; b++ {
			each(s + string(b))
		}
	}
	each("")
}

// Check asks the same: just so many arguments are taken.
func TestK1Calls(t *testing.T) {
	for s, n := range takes() {
		for kids := range api.MaxArgs + 1 {
			l := []api.Statement{eval(calling(s, kids))}
			if kids == n {
				wantGood(t, l)
			} else {
				wantFault(t, l, api.ErrMany, 0)
			}
		}
	}
}
