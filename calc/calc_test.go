package calc_test

import (
	"go/ast"
	"go/parser"
	"go/token"
	"math"
	"math/rand"
	"regexp"
	"strconv"
	"strings"
	"testing"

	"escritoire/api"
	"escritoire/calc"
	"escritoire/real"
)

var (
	negZero = math.Copysign(0, -1)
	inf     = math.Inf(1)
	nan     = math.NaN()
)

func isSame(a, b float64) bool {
	return math.Float64bits(a) == math.Float64bits(b) || math.IsNaN(a) && math.IsNaN(b)
}

func wantValue(t *testing.T, s string, want float64) {
	t.Helper()
	if got, e := calc.Eval(s); e != api.OK || !isSame(got, want) {
		t.Errorf("Eval(%s) = %v, %v, want %v", short(s), got, e, want)
	}
}

func wantErrno(t *testing.T, s string, want api.Errno) {
	t.Helper()
	if got, e := calc.Eval(s); e != want || math.Float64bits(got) != 0 {
		t.Errorf("Eval(%s) = %v, %v, want 0, %v", short(s), got, e, want)
	}
}

// short keeps a failure readable.
func short(s string) string {
	if len(s) <= 100 {
		return strconv.Quote(s)
	}
	return strconv.Quote(s[:50]) + " .. " + strconv.Quote(s[len(s)-20:]) + " (" + strconv.Itoa(len(s)) + " bytes)"
}

type example struct {
	s    string
	want float64
}

func wantValues(t *testing.T, l []example) {
	t.Helper()
	for _, c := range l {
		wantValue(t, c.s, c.want)
	}
}

func TestExamples(t *testing.T) {
	wantValues(t, []example{{"1 + 2 * 3", 7}, {"-(4 - 6) / 0", inf}, {"0 / -5", negZero}, {"min(nan, 3)", 3}})
	wantErrno(t, "1 +", api.ErrSyntax)
	wantErrno(t, "01", api.ErrSyntax)
}

func TestOperatorsFromTheLeft(t *testing.T) {
	wantValues(t, []example{
		{"1+2", 3}, {"1-2", -1}, {"2*3", 6}, {"3/2", 1.5},
		{"8-2-2", 4}, {"8-2+2", 8}, {"8+2-2", 8}, {"8/2/2", 2}, {"8/2*4", 16}, {"8*2/4", 4}, {"7/2/7*2", 1},
		{"8-(2-2)", 8}, {"8-(2+2)", 4}, {"8/(2/2)", 8}, {"8/(2*4)", 1},
		{"1+2*3", 7}, {"2*3+1", 7}, {"(1+2)*3", 9}, {"3*(1+2)", 9}, {"1-6/3", -1}, {"6/3-1", 1}, {"1-2*3-4/2", -7}, {"2*3-4*5", -14},
		{"1+2-3*4/8", 1.5},
	})
}

func TestMinusAhead(t *testing.T) {
	wantValues(t, []example{
		{"-1", -1}, {"--1", 1}, {"---1", -1}, {"- - 1", 1}, {"-(1)", -1}, {"-(-1)", 1}, {"-1+2", 1}, {"-1-2", -3}, {"-(1+2)", -3},
		{"2*-3", -6}, {"2/-4", -0.5}, {"2--3", 5}, {"2+-3", -1}, {"2---3", -1}, {"-2*-3", 6}, {"-2*3", -6},
		{"-min(1,2)", -1}, {"-abs(-1)", -1}, {"min(-1,-2)", -2}, {"-inf", -inf}, {"--inf", inf}, {"-nan", nan}, {"-0", negZero}, {"--0", 0}, {"-0.0", negZero}, {"0*-1", negZero},
	})
}

// Each of these would be another number if its operators were rounded together, or in another order.
func TestEachIsRoundedByItself(t *testing.T) {
	wantValues(t, []example{
		{"0.1*10-1", 0}, {"1-0.1*10", 0}, {"-1+0.1*10", 0}, {"(0.1*10)-1", 0}, {"0.1*3", 0.30000000000000004}, {"0.1*3-0.3", math.Ldexp(1, -54)},
		{"0.1+0.2", 0.30000000000000004}, {"0.1+0.2+0.3", 0.6000000000000001}, {"0.1+(0.2+0.3)", 0.6}, {"0.1*0.7*0.3", 0.020999999999999998}, {"0.1*(0.7*0.3)", 0.021},
		{"999999999999999*10+1-999999999999999*10", 2}, {"999999999999999*10-999999999999999*10+1", 1}, {"1-1/3-1/3-1/3", math.Ldexp(1, -53)},
	})
	huge := strings.Repeat("100000000000000*", 23) + "1"
	wantValues(t, []example{{huge, inf}, {huge + "/" + strings.Repeat("100000000000000/", 23) + "1", inf}, {huge + "-" + huge, nan}})
	tiny := "1" + strings.Repeat("/100000000000000", 23) + "/10"
	wantValues(t, []example{{tiny, math.SmallestNonzeroFloat64 * 2}, {tiny + "/2", math.SmallestNonzeroFloat64}, {tiny + "/4", 0}, {"-" + tiny + "/4", negZero}, {tiny + "/4*4", 0}})
}

func TestDivisionByZero(t *testing.T) {
	wantValues(t, []example{
		{"1/0", inf}, {"1/-0", -inf}, {"-1/0", -inf}, {"-1/-0", inf}, {"1/(0/-5)", -inf}, {"1/(-0+0)", inf}, {"1/(-0-0)", -inf},
		{"0/0", nan}, {"0/-0", nan}, {"-0/0", nan}, {"inf/0", inf}, {"inf/-0", -inf}, {"nan/0", nan}, {"0.0/0.0", nan},
		{"0/5", 0}, {"0/-5", negZero}, {"-0/5", negZero}, {"-0/-5", 0}, {"5/inf", 0}, {"5/-inf", negZero}, {"inf/inf", nan}, {"1/0-1/0", nan}, {"1/0/0", inf}, {"1/(1/0)", 0},
	})
}

func TestInfinitiesAndNaN(t *testing.T) {
	wantValues(t, []example{
		{"inf", inf}, {"nan", nan}, {"inf+1", inf}, {"1-inf", -inf}, {"inf-inf", nan}, {"inf+inf", inf}, {"inf*0", nan}, {"inf*-1", -inf}, {"inf*inf", inf},
		{"nan+1", nan}, {"1*nan", nan}, {"nan-nan", nan}, {"nan*0", nan}, {"nan/nan", nan}, {"0-0", 0}, {"-0-0", negZero}, {"-0+0", 0}, {"-0+-0", negZero},
	})
}

func TestMinAndMax(t *testing.T) {
	wantValues(t, []example{
		{"min(1,2)", 1}, {"min(2,1)", 1}, {"max(1,2)", 2}, {"max(2,1)", 2}, {"min(-1,-2)", -2}, {"max(-1,-2)", -1}, {"min(10,9)", 9}, {"max(10,9)", 10},
		{"min(3,3)", 3}, {"max(3,3)", 3}, {"min(inf,inf)", inf}, {"max(-inf,-inf)", -inf}, {"min(0.5,0.50)", 0.5},
		{"min(-0,0)", negZero}, {"min(0,-0)", negZero}, {"max(-0,0)", 0}, {"max(0,-0)", 0}, {"min(-0,-0)", negZero}, {"max(-0,-0)", negZero}, {"min(0,0)", 0}, {"max(0,0)", 0},
		{"min(nan,3)", 3}, {"min(3,nan)", 3}, {"max(nan,3)", nan}, {"max(3,nan)", nan}, {"min(nan,inf)", inf}, {"min(inf,nan)", inf}, {"max(nan,inf)", nan}, {"max(inf,nan)", nan},
		{"min(nan,-inf)", -inf}, {"max(-inf,nan)", nan}, {"min(nan,nan)", nan}, {"max(nan,nan)", nan}, {"min(-nan,3)", 3}, {"max(-nan,3)", nan}, {"min(-inf,inf)", -inf}, {"max(-inf,inf)", inf},
		{"min(1+1,1*3)", 2}, {"max(1+1,1*3)", 3}, {"min(1,2)*max(3,4)", 4}, {"min(max(1,5),max(2,3))", 3}, {"max(min(1,5),min(2,3))", 2}, {"min((1),(2))", 1}, {"1-min(2,3)-4", -5},
	})
}

// Of numbers that are alike only the NaNs can be told from each other: by their sign.
func TestMinAndMaxTakeTheSecondIfAlike(t *testing.T) {
	for _, c := range []struct {
		s     string
		minus bool
	}{
		{"min(nan,-nan)", true}, {"max(nan,-nan)", true}, {"min(-nan,nan)", false}, {"max(-nan,nan)", false},
		{"min(nan,nan)", false}, {"max(-nan,-nan)", true}, {"min(-nan,-nan)", true}, {"max(nan,nan)", false},
	} {
		if x, e := calc.Eval(c.s); e != api.OK || !math.IsNaN(x) || math.Signbit(x) != c.minus {
			t.Errorf("Eval(%q) = %v with bits %x, %v", c.s, x, math.Float64bits(x), e)
		}
	}
}

func TestAbs(t *testing.T) {
	wantValues(t, []example{
		{"abs(2)", 2}, {"abs(-2)", 2}, {"abs(-2.5)", 2.5}, {"abs(0)", 0}, {"abs(-0)", 0}, {"abs(0/-5)", 0}, {"abs(inf)", inf}, {"abs(-inf)", inf}, {"abs(nan)", nan}, {"abs(-nan)", nan},
		{"abs(1-3)", 2}, {"abs(abs(-1)-2)", 1}, {"1/abs(-0)", inf}, {"-abs(-3)", -3}, {"abs(min(-1,-2))", 2}, {"abs(-2)*abs(-3)", 6},
	})
	if x, _ := calc.Eval("abs(-nan)"); math.Signbit(x) {
		t.Error("abs(-nan) has its sign")
	}
}

func TestBlanks(t *testing.T) {
	for _, parts := range [][]string{
		{"1"}, {"nan"}, {"-", "1"}, {"-", "-", "0.5"}, {"1", "+", "2"}, {"(", "1", ")"}, {"(", "(", "1", ")", ")"}, {"1", "-", "-", "1"},
		{"min", "(", "1.5", ",", "2", ")"}, {"max", "(", "-", "inf", ",", "3", ")"}, {"abs", "(", "-", "0", ")"}, {"8", "/", "2", "/", "4", "*", "(", "1", "-", "3", ")"},
		{"1", "+", "min", "(", "abs", "(", "-", "3", ")", "*", "2", ",", "nan", "-", "1", ")", "/", "-", "0"},
	} {
		want, e := calc.Eval(strings.Join(parts, ""))
		if e != api.OK {
			t.Fatalf("Eval(%q): %v", strings.Join(parts, ""), e)
		}
		for _, between := range []string{" ", "  ", strings.Repeat(" ", 100)} {
			wantValue(t, strings.Join(parts, between), want)
			wantValue(t, between+strings.Join(parts, ""), want)
			wantValue(t, strings.Join(parts, "")+between, want)
			wantValue(t, between+strings.Join(parts, between)+between, want)
		}
		// One blank alone, at each place between two parts.
		for i := range parts {
			wantValue(t, strings.Join(parts[:i], "")+" "+strings.Join(parts[i:], ""), want)
		}
	}
}

// TestNumbersAsRead is the first sentence of P4.2.
func TestNumbersAsRead(t *testing.T) {
	texts := []string{"nan", "inf", "0", "0.0", "0.5", "1", "10", "3.50", "100.001", "0.1", "0.00000000000001", "123456789012345", "999999999999999", "12345678.9012345", "9.99999999999999", "0.00000000000000"}
	r := rand.New(rand.NewSource(4))
	for range 3000 {
		whole := strconv.Itoa(r.Intn(1 << r.Intn(40)))
		behind := strconv.Itoa(r.Intn(1 << r.Intn(20)))
		texts = append(texts, whole)
		if len(whole)+len(behind) <= 15 {
			texts = append(texts, whole+"."+behind)
		}
	}
	for _, s := range texts {
		want, ok := real.Read(s)
		if !ok {
			t.Fatalf("real.Read(%q) is false", s)
		}
		wantValue(t, s, want)
		wantValue(t, " "+s+"  ", want)
		wantValue(t, "("+s+")", want)
		wantValue(t, "-"+s, -want)
	}
}

func TestNumbersInTheFormWith0x1(t *testing.T) {
	for _, x := range []float64{0.5, 1.5, 0.1, 1e15, 1e300, -0.5, math.MaxFloat64, math.SmallestNonzeroFloat64} {
		s := real.Show(x)
		if _, ok := real.Read(s); !ok || !strings.Contains(s, "0x1") {
			t.Fatalf("Show(%v) = %q", x, s)
		}
		wantErrno(t, s, api.ErrSyntax)
		wantErrno(t, "("+s+")", api.ErrSyntax)
		wantErrno(t, "1+"+s, api.ErrSyntax)
		wantErrno(t, "-"+s, api.ErrSyntax)
	}
}

func TestNoExpression(t *testing.T) {
	for _, s := range []string{
		"", " ", "    ", strings.Repeat(" ", api.MaxLine),
		// A blank within a number or a name.
		"1 2", "1 .5", "1. 5", "1 . 5", "0 .", "n an", "na n", "i nf", "in f", "m in(1,2)", "mi n(1,2)", "ma x(1,2)", "a bs(1)", "ab s(1)", "- i nf", "1 0+1",
		// Numbers that real.Read does not take.
		"01", "00", "00.5", "01.5", ".5", "5.", ".", "1.5.5", "1..5", "1,5", "1_0", "1e5", "1E5", "0e0", "0x1", "0x10", "1234567890123456", "0.000000000000001", "12345678.90123456", "0000000000000001", strings.Repeat("1", 400), strings.Repeat("1", api.MaxLine), "1+01", "01+1", "min(01,1)", "(.5)",
		"NaN", "NAN", "Inf", "INF", "infinity", "nanx", "xnan", "nann", "inf1", "1inf", "nan1", "1nan", "naninf", "infnan", "nan.", "nan.5", "5.nan",
		// Operators without what they stand between, and others.
		"+", "-", "*", "/", "1+", "1-", "1*", "1/", "+1", "*1", "/1", "1++1", "1+*1", "1*+1", "1**1", "1//1", "1-+1", "--", "1--", "1 -", "-+1", "1%2", "1^2", "2!", "1=1", "1<2", "1&1", "1;2", "1#", "a", "x+1",
		// Brackets too few, too many, others.
		"(", ")", "()", "( )", "(1", "1)", "((1)", "(1))", ")1(", "(1)(2)", "1(2)", "(1)2", "[1]", "{1}", "(1]", "(1+)", "(+1)", "(1,2)", "(,)", "(1,)", "-()", "1+()", "(1 2)",
		// Commas too few, too many.
		",", "1,", ",1", "1,2", "min(1)", "min(1 2)", "min(,)", "min(1,)", "min(,1)", "min(1,2,)", "min(1,2,3)", "min(1,,2)", "min(,1,2)", "max(1)", "max(1,2,3)", "abs(1,2)", "abs(1,)", "abs(,1)", "abs(,)", "min((1,2))", "min(1,2),3",
		// Functions without their brackets, or without what stands in them.
		"min", "max", "abs", "min()", "max()", "abs()", "abs( )", "min 1,2", "min1,2", "abs 1", "abs1", "abs-1", "abs nan", "min(1,2", "max 1,2)", "abs(1", "abs 1)", "abs[1]", "min+1", "1+min", "-abs", "(min)(1,2)", "(abs)(1)", "min max(1,2)", "abs abs(1)", "minmax(1,2)", "absabs(1)", "1min(1,2)", "2abs(1)", "abs(1)2", "min(1,2)abs(3)", "min(1,2)(3)",
		"Min(1,2)", "MAX(1,2)", "Abs(1)", "mid(1,2)", "sum(1,2)", "sqrt(4)", "minx(1,2)", "xmin(1,2)",
	} {
		wantErrno(t, s, api.ErrSyntax)
	}
}

// TestOtherBytes puts each byte that may stand in no expression at each kind of place.
func TestOtherBytes(t *testing.T) {
	for c := range 256 {
		b := string([]byte{byte(c)})
		if strings.Contains(" 0123456789.+-*/(),abfimnsx", b) {
			continue
		}
		for _, s := range []string{b, b + "1", "1" + b, "1" + b + "2", "1 " + b + " 2", "1+" + b, "(" + b + "1)", "(1" + b + ")", "-" + b + "1", "min(1" + b + "2)", "min" + b + "(1,2)", "n" + b + "an", "1." + b + "5", " " + b + " "} {
			wantErrno(t, s, api.ErrSyntax)
		}
	}
}

func TestMaxLine(t *testing.T) {
	fill := func(n int) string { return strings.Repeat(" ", n) }
	wantValue(t, fill(api.MaxLine-1)+"7", 7)
	wantValue(t, "7"+fill(api.MaxLine-1), 7)
	wantValue(t, fill(100)+"7"+fill(api.MaxLine-101), 7)
	wantValue(t, "3"+fill(api.MaxLine-3)+"-4", -1)
	wantValue(t, strings.Repeat("1+", api.MaxLine/2-1)+"10", api.MaxLine/2-1+10)
	wantValue(t, strings.Repeat("(1)*", api.MaxLine/4-1)+" (5)", 5)

	wantErrno(t, fill(api.MaxLine)+"7", api.ErrLong)
	wantErrno(t, "7"+fill(api.MaxLine), api.ErrLong)
	wantErrno(t, strings.Repeat("1+", api.MaxLine/2)+"1", api.ErrLong)
	wantErrno(t, strings.Repeat("1 ", 1<<20), api.ErrLong)

	// What is too long is told ahead of what is no expression.
	for _, part := range []string{" ", "(", ")", "-", "1", "x", "+", "\x00", "\xff", "min("} {
		wantErrno(t, strings.Repeat(part, api.MaxLine/len(part)), api.ErrSyntax)
		wantErrno(t, strings.Repeat(part, api.MaxLine/len(part)+1), api.ErrLong)
	}
}

// nested stands 1 within n of what begins with open and ends with close.
func nested(open, close string, n int) string {
	return strings.Repeat(open, n) + "1" + strings.Repeat(close, n)
}

// wraps are all the factors that others stand within.
var wraps = [][2]string{
	{"(", ")"}, {" ( ", " ) "}, {"-", ""}, {"- ", ""}, {"abs(", ")"}, {"abs (", ")"}, {"min(", ",2)"}, {"min(2,", ")"}, {"max(", ",0)"}, {"max(0,", ")"}, {"(1*", ")"}, {"(0+", ")"}, {"(", "+0)"},
}

func TestMaxDepth(t *testing.T) {
	for _, w := range wraps {
		for _, n := range []int{0, 1, 2, api.MaxDepth - 1, api.MaxDepth} {
			want := 1.0
			if w[1] == "" && n%2 == 1 {
				want = -1
			}
			wantValue(t, nested(w[0], w[1], n), want)
		}
		for _, n := range []int{api.MaxDepth + 1, api.MaxDepth + 2, 2 * api.MaxDepth, 400} {
			wantErrno(t, nested(w[0], w[1], n), api.ErrLong)
		}
	}
	wantErrno(t, strings.Repeat("(", api.MaxLine/2-1)+"10"+strings.Repeat(")", api.MaxLine/2-1), api.ErrLong)
	wantErrno(t, strings.Repeat("-", api.MaxLine-1)+"1", api.ErrLong)
}

// Kinds that are mixed count one each.
func TestMaxDepthMixed(t *testing.T) {
	for _, a := range wraps {
		for _, b := range wraps {
			half := api.MaxDepth / 2
			s := strings.Repeat(a[0]+b[0], half) + "1" + strings.Repeat(b[1]+a[1], half)
			want, _ := oracle(s)
			wantValue(t, s, want)
			wantErrno(t, "("+s+")", api.ErrLong)
			wantErrno(t, "-"+s, api.ErrLong)
			wantErrno(t, "abs("+s+")", api.ErrLong)
			wantErrno(t, "min(0,"+s+")", api.ErrLong)
		}
	}
}

// What stands beside a factor does not count, wherever in the text the deepest one is.
func TestDepthIsNotSummed(t *testing.T) {
	full, over := nested("(", ")", api.MaxDepth), nested("(", ")", api.MaxDepth+1)
	wantValue(t, strings.Repeat(full+"+", 50)+full, 51)
	wantValue(t, full+"*-1+abs(-3)-"+nested("-", "", api.MaxDepth), 1)
	wantValue(t, "min(1,2)+"+strings.Repeat("(1)+-1+", 200)+"1", 2)
	almost := nested("(", ")", api.MaxDepth-1)
	wantValue(t, "min("+almost+","+almost+")+"+almost, 2)
	for _, s := range []string{over + "+1", "1+" + over, "1*" + over + "-1", full + "/" + over, over + "/" + full, "min(1," + full + ")", "min(" + full + ",1)", "-" + full, "1--" + full} {
		wantErrno(t, s, api.ErrLong)
	}
}

// What is no expression is told ahead of what is too deep, also far behind it.
func TestTooDeepAndNoExpression(t *testing.T) {
	for _, w := range wraps {
		over := nested(w[0], w[1], api.MaxDepth+1)
		for _, s := range []string{over + ")", over + " 1", over + "+", over + "+01", over + strings.Repeat("+1", 500) + "+", "1+" + over + "x", "(" + over, over + ",1", "min(" + over + ")", "01+" + over, over + "\x00"} {
			wantErrno(t, s, api.ErrSyntax)
		}
		wantErrno(t, strings.Repeat(w[0], api.MaxDepth+1), api.ErrSyntax)
		wantErrno(t, strings.Repeat(w[0], api.MaxDepth+1)+"x"+strings.Repeat(w[1], api.MaxDepth+1), api.ErrSyntax)
		if w[1] != "" {
			wantErrno(t, strings.Repeat(w[0], api.MaxDepth+1)+"1"+strings.Repeat(w[1], api.MaxDepth), api.ErrSyntax)
			wantErrno(t, strings.Repeat(w[0], api.MaxDepth+1)+"1"+strings.Repeat(w[1], api.MaxDepth+2), api.ErrSyntax)
		}
	}
}

// TestCallsAreApart asks again behind calls that were refused.
func TestCallsAreApart(t *testing.T) {
	for range 3 {
		wantValue(t, nested("(", ")", api.MaxDepth), 1)
		wantErrno(t, strings.Repeat("(", 500), api.ErrSyntax)
		wantErrno(t, nested("-", "", 500), api.ErrLong)
	}
}

var (
	tokens = regexp.MustCompile(`min|max|abs|nan|inf|[0-9.]+|[-+*/(),]| +`)
	number = regexp.MustCompile(`^(0|[1-9][0-9]*)(\.[0-9]+)?$`)
)

// refuse is what the oracle panics with.
type refuse struct{}

// oracle is P4.1 by another way: Go's own parser reads the text's tokens, and its tree is walked.
func oracle(s string) (x float64, e api.Errno) {
	defer func() {
		if r := recover(); r != nil {
			if _, ok := r.(refuse); !ok {
				panic(r)
			}
			x, e = 0, api.ErrSyntax
		}
	}()
	if len(s) > api.MaxLine {
		return 0, api.ErrLong
	}
	deepest := 0
	x = value(tree(s), 0, &deepest)
	if deepest > api.MaxDepth {
		return 0, api.ErrLong
	}
	return x, api.OK
}

// tree stands blanks between the tokens, so that Go reads none of its own (as --), and no comments.
func tree(s string) ast.Expr {
	found := tokens.FindAllString(s, -1)
	var l []string
	for _, f := range found {
		if strings.Trim(f, "0123456789.") == "" && (!number.MatchString(f) || len(strings.Replace(f, ".", "", 1)) > 15) {
			panic(refuse{})
		}
		if strings.Trim(f, " ") != "" {
			l = append(l, f)
		}
	}
	joined := strings.Join(l, " ")
	// Go takes a comma behind the last argument.
	if strings.Join(found, "") != s || strings.Contains(joined, ", )") {
		panic(refuse{})
	}
	n, err := parser.ParseExpr(joined)
	if err != nil {
		panic(refuse{})
	}
	return n
}

func value(n ast.Expr, depth int, deepest *int) float64 {
	*deepest = max(*deepest, depth)
	switch n := n.(type) {
	case *ast.BasicLit:
		x, err := strconv.ParseFloat(n.Value, 64)
		if err != nil {
			panic(refuse{})
		}
		return x
	case *ast.Ident:
		switch n.Name {
		case "nan":
			return nan
		case "inf":
			return inf
		}
	case *ast.ParenExpr:
		return value(n.X, depth+1, deepest)
	case *ast.UnaryExpr:
		if x := value(n.X, depth+1, deepest); n.Op == token.SUB {
			return math.Float64frombits(math.Float64bits(x) ^ 1<<63)
		}
	case *ast.BinaryExpr:
		return binary(n.Op, value(n.X, depth, deepest), value(n.Y, depth, deepest))
	case *ast.CallExpr:
		return call(n, depth, deepest)
	}
	panic(refuse{})
}

func binary(op token.Token, a, b float64) float64 {
	switch op {
	case token.ADD:
		return float64(a + b)
	case token.SUB:
		return float64(a - b)
	case token.MUL:
		return float64(a * b)
	case token.QUO:
		return float64(a / b)
	}
	panic(refuse{})
}

func call(n *ast.CallExpr, depth int, deepest *int) float64 {
	name, ok := n.Fun.(*ast.Ident)
	if !ok {
		panic(refuse{})
	}
	var l []float64
	for _, a := range n.Args {
		l = append(l, value(a, depth+1, deepest))
	}
	switch {
	case name.Name == "abs" && len(l) == 1:
		return math.Float64frombits(math.Float64bits(l[0]) &^ (1 << 63))
	case name.Name == "min" && len(l) == 2 && isAhead(l[0], l[1]), name.Name == "max" && len(l) == 2 && isAhead(l[1], l[0]):
		return l[0]
	case (name.Name == "min" || name.Name == "max") && len(l) == 2:
		return l[1]
	}
	panic(refuse{})
}

// isAhead is P3.1's order, by the language's own one.
func isAhead(a, b float64) bool {
	switch {
	case math.IsNaN(a):
		return false
	case math.IsNaN(b):
		return true
	case a == b:
		return math.Signbit(a) && !math.Signbit(b)
	}
	return a < b
}

// wantAsOracle tells which answer it was, so that a test can see that it met all of them.
func wantAsOracle(t *testing.T, s string, met map[api.Errno]int) {
	t.Helper()
	want, wantE := oracle(s)
	met[wantE]++
	if got, e := calc.Eval(s); e != wantE || !isSame(got, want) {
		t.Fatalf("Eval(%s) = %v, %v, want %v, %v", short(s), got, e, want, wantE)
	}
}

// TestShortTexts holds Eval against the oracle at each text of few parts.
func TestShortTexts(t *testing.T) {
	met := map[api.Errno]int{}
	for _, c := range []struct {
		parts []string
		most  int
	}{
		{[]string{"0", "1", ".", " ", "-", "+", "*", "/", "(", ")", ",", "nan", "inf", "min", "max", "abs", "x"}, 3},
		{[]string{"0", "2", " ", "-", "/", "(", ")", "abs"}, 5},
		{[]string{"3", "-", "(", ")", ",", "min"}, 6},
	} {
		texts := []string{""}
		for range c.most {
			var longer []string
			for _, s := range texts {
				for _, p := range c.parts {
					longer = append(longer, s+p)
					wantAsOracle(t, s+p, met)
				}
			}
			texts = longer
		}
	}
	if met[api.OK] < 1000 || met[api.ErrSyntax] < 1000 {
		t.Errorf("answers met: %v", met)
	}
}

// written makes the parts of an expression with up to left factors within each other.
func written(r *rand.Rand, left int) []string {
	if left == 0 || r.Intn(30) == 0 {
		return []string{[]string{"0", "1", "2", "3", "0.1", "0.7", "10", "nan", "inf", "123456789012345", "99999999.9999999", "0.00000000000001"}[r.Intn(12)]}
	}
	within := func() []string { return written(r, left-1) }
	join := func(l ...[]string) []string {
		var out []string
		for _, x := range l {
			out = append(out, x...)
		}
		return out
	}
	switch r.Intn(8) {
	case 0:
		return join([]string{"-"}, within())
	case 1:
		return join([]string{"(", "-"}, within(), []string{")"})
	case 2:
		return join([]string{"("}, within(), []string{")"})
	case 3:
		return join([]string{"abs", "("}, within(), []string{")"})
	case 4:
		return join([]string{[]string{"min", "max"}[r.Intn(2)], "("}, within(), []string{","}, written(r, left/4), []string{")"})
	}
	return join(within(), []string{[]string{"+", "-", "*", "/"}[r.Intn(4)]}, written(r, left/4))
}

// TestLongTexts holds Eval against the oracle at expressions of all depths, and at the same with a part taken out, put in or doubled.
func TestLongTexts(t *testing.T) {
	r := rand.New(rand.NewSource(44))
	others := []string{"(", ")", ",", "-", "+", "*", "/", "1", "01", ".", "min", "abs", "nan", "x", ""}
	met := map[api.Errno]int{}
	for range 3000 {
		parts := written(r, r.Intn(60))
		wantAsOracle(t, strings.Join(parts, ""), met)
		wantAsOracle(t, strings.Join(parts, " "), met)
		at := r.Intn(len(parts))
		parts[at] = []string{parts[at] + parts[at], others[r.Intn(len(others))], parts[at] + others[r.Intn(len(others))]}[r.Intn(3)]
		wantAsOracle(t, strings.Join(parts, ""), met)
		wantAsOracle(t, strings.Join(parts, strings.Repeat(" ", r.Intn(3))), met)
	}
	if met[api.OK] < 100 || met[api.ErrSyntax] < 100 || met[api.ErrLong] < 100 {
		t.Errorf("answers met: %v", met)
	}
}

// TestAnyBytes takes bytes of all kinds, and more of those that expressions are made of.
func TestAnyBytes(t *testing.T) {
	r := rand.New(rand.NewSource(444))
	met := map[api.Errno]int{}
	for range 5000 {
		b := make([]byte, r.Intn(12))
		for i := range b {
			b[i] = byte(r.Intn(256))
			if r.Intn(4) > 0 {
				b[i] = " 0123.+-*/(),abfimnsx"[r.Intn(21)]
			}
		}
		wantAsOracle(t, string(b), met)
	}
	if met[api.OK] == 0 || met[api.ErrSyntax] == 0 {
		t.Errorf("answers met: %v", met)
	}
}
