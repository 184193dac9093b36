package numbers_test

import (
	"fmt"
	"math/big"
	"testing"

	"scanfail/api"
	"scanfail/numbers"
)

func TestB2Sums(t *testing.T) {
	for _, c := range []struct{ a, b, sum int64 }{
		{0, 0, 0},
		{2, 3, 5},
		{2, -3, -1},
		{-2, -3, -5},
		{greatest, 0, greatest},
		{greatest, -1, greatest - 1},
		{greatest - 1, 1, greatest},
		{least, 0, least},
		{least + 1, -1, least},
		{least, 1, least + 1},
		{greatest, least, -1},
	} {
		got, err := numbers.Add(c.a, c.b)
		wantNumber(t, fmt.Sprintf("Add %d and %d", c.a, c.b), got, err, c.sum)
		got, err = numbers.Sub(c.sum, c.b)
		wantNumber(t, fmt.Sprintf("Sub %d from %d", c.b, c.sum), got, err, c.a)
	}
}

func TestB2SumsTooGreat(t *testing.T) {
	for _, c := range []struct{ a, b int64 }{
		{greatest, 1}, {1, greatest}, {greatest, greatest}, {least, -1}, {-1, least}, {least, least}, {1 << 62, 1 << 62}, {-1 << 62, -1<<62 - 1},
	} {
		got, err := numbers.Add(c.a, c.b)
		wantError(t, fmt.Sprintf("Add %d and %d", c.a, c.b), got, err, api.ErrRange)
	}
	for _, c := range []struct{ a, b int64 }{
		{greatest, -1}, {least, 1}, {0, least}, {1, least}, {greatest, least}, {least, greatest}, {-2, greatest},
	} {
		got, err := numbers.Sub(c.a, c.b)
		wantError(t, fmt.Sprintf("Sub %d from %d", c.b, c.a), got, err, api.ErrRange)
	}
}

func TestB2Mul(t *testing.T) {
	for _, c := range []struct{ a, b, want int64 }{
		{0, 0, 0},
		{0, least, 0},
		{greatest, 0, 0},
		{6, 7, 42},
		{-6, 7, -42},
		{6, -7, -42},
		{-6, -7, 42},
		{greatest, 1, greatest},
		{greatest, -1, least + 1},
		{least, 1, least},
		{1, least, least},
		{1 << 31, 1 << 31, 1 << 62},
		{1 << 32, -1 << 31, least},
		{-1 << 62, 2, least},
		{3037000499, 3037000499, 9223372030926249001},
	} {
		got, err := numbers.Mul(c.a, c.b)
		wantNumber(t, fmt.Sprintf("Mul %d and %d", c.a, c.b), got, err, c.want)
	}
	for _, c := range []struct{ a, b int64 }{
		{least, -1}, {-1, least}, {least, least}, {greatest, greatest}, {greatest, 2}, {least, 2}, {1 << 32, 1 << 31}, {-1 << 32, -1 << 31},
		{1 << 32, 1 << 32}, // wraps round to 0
		{3037000500, 3037000500},
	} {
		got, err := numbers.Mul(c.a, c.b)
		wantError(t, fmt.Sprintf("Mul %d and %d", c.a, c.b), got, err, api.ErrRange)
	}
}

func TestB2DivRem(t *testing.T) {
	for _, c := range []struct{ a, b, quotient, rest int64 }{
		{0, 1, 0, 0},
		{0, least, 0, 0},
		{7, 2, 3, 1},
		{-7, 2, -3, -1},
		{7, -2, -3, 1},
		{-7, -2, 3, -1},
		{1, 2, 0, 1},
		{-1, 2, 0, -1},
		{6, 3, 2, 0},
		{greatest, -1, least + 1, 0},
		{least, 1, least, 0},
		{least, 2, -1 << 62, 0},
		{least, -2, 1 << 62, 0},
		{least, least, 1, 0},
		{least, greatest, -1, -1},
		{greatest, least, 0, greatest},
		{least, 10, -922337203685477580, -8},
	} {
		what := fmt.Sprintf("%d by %d", c.a, c.b)
		got, err := numbers.Div(c.a, c.b)
		wantNumber(t, "Div "+what, got, err, c.quotient)
		got, err = numbers.Rem(c.a, c.b)
		wantNumber(t, "Rem "+what, got, err, c.rest)
	}
}

// The quotient is too great; what is left is 0, which is a number.
func TestB2LeastByMinusOne(t *testing.T) {
	got, err := numbers.Div(least, -1)
	wantError(t, "Div", got, err, api.ErrRange)
	got, err = numbers.Rem(least, -1)
	wantNumber(t, "Rem", got, err, 0)
	got, err = numbers.Mul(least, -1)
	wantError(t, "Mul", got, err, api.ErrRange)
}

func TestB2ByNought(t *testing.T) {
	for _, a := range edges {
		got, err := numbers.Div(a, 0)
		wantError(t, fmt.Sprintf("Div %d by 0", a), got, err, api.ErrNone)
		got, err = numbers.Rem(a, 0)
		wantError(t, fmt.Sprintf("Rem %d by 0", a), got, err, api.ErrNone)
	}
}

// All pairs of edges, held against numbers without bounds.
func TestB2AllPairs(t *testing.T) {
	for _, a := range edges {
		for _, b := range edges {
			x, y := big.NewInt(a), big.NewInt(b)
			what := fmt.Sprintf("of %d and %d", a, b)
			got, err := numbers.Add(a, b)
			wantBig(t, "Add "+what, got, err, new(big.Int).Add(x, y))
			got, err = numbers.Sub(a, b)
			wantBig(t, "Sub "+what, got, err, new(big.Int).Sub(x, y))
			got, err = numbers.Mul(a, b)
			wantBig(t, "Mul "+what, got, err, new(big.Int).Mul(x, y))
			got, err = numbers.Gcd(a, b)
			wantBig(t, "Gcd "+what, got, err, new(big.Int).GCD(nil, nil, new(big.Int).Abs(x), new(big.Int).Abs(y)))
			if b == 0 {
				continue
			}
			got, err = numbers.Div(a, b)
			wantBig(t, "Div "+what, got, err, new(big.Int).Quo(x, y))
			got, err = numbers.Rem(a, b)
			wantBig(t, "Rem "+what, got, err, new(big.Int).Rem(x, y))
		}
	}
}

func TestB2Power(t *testing.T) {
	for _, c := range []struct{ a, n, want int64 }{
		{0, 0, 1},
		{1, 0, 1},
		{-1, 0, 1},
		{5, 0, 1},
		{least, 0, 1},
		{greatest, 0, 1},
		{0, 1, 0},
		{0, greatest, 0},
		{1, 63, 1},
		{1, 64, 1},
		{1, greatest, 1},
		{-1, 1, -1},
		{-1, 2, 1},
		{-1, 62, 1},
		{-1, 63, -1},
		{-1, 64, 1},
		{-1, 65, -1},
		{-1, greatest - 1, 1},
		{-1, greatest, -1},
		{2, 10, 1024},
		{-3, 3, -27},
		{-3, 4, 81},
		{2, 62, 1 << 62},
		{-2, 62, 1 << 62},
		{-2, 63, least},
		{-8, 21, least},
		{7, 22, 3909821048582988049},
		{10, 18, 1e18},
		{3037000499, 2, 9223372030926249001},
		{2097151, 3, 9223358842721533951},
		{-2097152, 3, least},
		{greatest, 1, greatest},
		{least, 1, least},
	} {
		got, err := numbers.Power(c.a, c.n)
		wantNumber(t, fmt.Sprintf("Power %d by %d", c.a, c.n), got, err, c.want)
	}
}

func TestB2PowerWrong(t *testing.T) {
	for _, c := range []struct {
		a, n int64
		want api.Errno
	}{
		{0, -1, api.ErrNone},
		{1, -1, api.ErrNone},
		{-1, -1, api.ErrNone},
		{2, -1, api.ErrNone},
		{greatest, least, api.ErrNone},
		{2, 63, api.ErrRange},
		{2, 64, api.ErrRange}, // wraps round to 0
		{-2, 64, api.ErrRange},
		{-2, 65, api.ErrRange},
		{2, 65, api.ErrRange},
		{2, greatest, api.ErrRange},
		{-2, greatest, api.ErrRange},
		{8, 21, api.ErrRange},
		{10, 19, api.ErrRange},
		{7, 23, api.ErrRange},
		{-7, 23, api.ErrRange},
		{3037000500, 2, api.ErrRange},
		{2097152, 3, api.ErrRange},
		{-2097153, 3, api.ErrRange},
		{greatest, 2, api.ErrRange},
		{least, 2, api.ErrRange},
		{least, greatest, api.ErrRange},
	} {
		got, err := numbers.Power(c.a, c.n)
		wantError(t, fmt.Sprintf("Power %d by %d", c.a, c.n), got, err, c.want)
	}
}

// All edges to small powers, held against numbers without bounds.
func TestB2AllPowers(t *testing.T) {
	for _, a := range edges {
		for n := int64(0); n <= 70; n++ {
			got, err := numbers.Power(a, n)
			wantBig(t, fmt.Sprintf("Power %d by %d", a, n), got, err, new(big.Int).Exp(big.NewInt(a), big.NewInt(n), nil))
		}
	}
}

func TestB2Gcd(t *testing.T) {
	for _, c := range []struct{ a, b, want int64 }{
		{0, 0, 0},
		{0, 5, 5},
		{5, 0, 5},
		{0, -5, 5},
		{-5, 0, 5},
		{1, 1, 1},
		{12, 18, 6},
		{-12, 18, 6},
		{12, -18, 6},
		{-12, -18, 6},
		{7, 13, 1},
		{greatest, greatest, greatest},
		{greatest, least, 1},
		{least, 1, 1},
		{least, 3, 1},
		{least, 6, 2},
		{least, 1 << 62, 1 << 62},
		{1 << 62, least, 1 << 62},
		{least, greatest, 1},
		{4660046610375530309, 7540113804746346429, 1}, // it takes the most steps
	} {
		got, err := numbers.Gcd(c.a, c.b)
		wantNumber(t, fmt.Sprintf("Gcd %d and %d", c.a, c.b), got, err, c.want)
	}
	for _, c := range []struct{ a, b int64 }{{least, 0}, {0, least}, {least, least}} {
		got, err := numbers.Gcd(c.a, c.b)
		wantError(t, fmt.Sprintf("Gcd %d and %d", c.a, c.b), got, err, api.ErrRange)
	}
}

func TestB2Root(t *testing.T) {
	for _, c := range []struct{ a, want int64 }{
		{0, 0}, {1, 1}, {2, 1}, {3, 1}, {4, 2}, {8, 2}, {9, 3}, {99, 9}, {100, 10}, {1 << 62, 1 << 31}, {1<<62 - 1, 1<<31 - 1},
		{9223372030926249000, 3037000498}, {9223372030926249001, 3037000499}, {greatest - 1, 3037000499}, {greatest, 3037000499},
	} {
		got, err := numbers.Root(c.a)
		wantNumber(t, fmt.Sprintf("Root %d", c.a), got, err, c.want)
	}
	for _, a := range []int64{-1, -4, least + 1, least} {
		got, err := numbers.Root(a)
		wantError(t, fmt.Sprintf("Root %d", a), got, err, api.ErrNone)
	}
}

// Squares and what lies beside them, held against numbers without bounds.
func TestB2RootOfSquares(t *testing.T) {
	for r := int64(1); r <= 3037000499; r += 1 + r/50 {
		for _, a := range []int64{r*r - 1, r * r, r*r + 1} {
			got, err := numbers.Root(a)
			wantBig(t, fmt.Sprintf("Root %d", a), got, err, new(big.Int).Sqrt(big.NewInt(a)))
		}
	}
}
