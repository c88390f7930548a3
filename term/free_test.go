package term_test

import (
	"slices"
	"strconv"
	"strings"
	"testing"

	"serinette/term"
)

// P4.2: the free names, in the order in which they stand.
func TestFree(t *testing.T) {
	for s, want := range map[string]string{
		"1": "", `"a"`: "", "_": "", "!": "", "+": "", "a": "a", "a , b": "a b", "b , a , b , a": "b a", "a ~ b : c <: d :> e": "a b c d e", "f(x, y, f)": "f x y", "a.b": "a", "a.b.a": "a", "a.b(b).c": "a b", "[c, b, a]": "c b a", "env { }": "",
		`\(x).(x)`: "", `\(x).(y)`: "y", `\(x, y).(x , z , y)`: "z", `\(x).(x) , x`: "x", `x , \(x).(x)`: "x", `\(x).(\(y).(x , y , z))`: "z", `\(x).(\(x).(x) : x)`: "", `\(x).(x)(x)`: "x",
		"par(i, n, i)": "n", "par(i, i, i)": "i", "seq(i, i : n, i : m)": "i n m", "sum(i, 2, par(j, i, i : j : k))": "k", "par(i, 2, par(i, i, i))": "", "par(i, 2, _) , i": "i", "par(i, 2, \\(i).(i) : i)": "",
		"case { (n) => n; }": "", "case { (0) => n; }": "n", "case { (n) => m; (m) => n; }": "m n", "case { (n, 0) => n : m; (0, m) => n : m; }": "m n", "case { (n) => n; } , n": "n", "case { (n) => case { (m) => n : m : k; }; }": "k",
	} {
		if got := term.Free(mustExpr(t, s)); !slices.Equal(got, strings.Fields(want)) {
			t.Errorf("Free of %s: got %v, want %s", s, got, want)
		}
	}
}

// P4.2: what with and env bind: in all their bodies, and the Kid of with; Kids stand ahead of Defs.
func TestFreeOfDefinitions(t *testing.T) {
	for s, want := range map[string]string{
		"a with { a = 1; }": "", "a with { b = a; }": "a", "a with { b = c; }": "a c", "a , b with { a = c; b = a : d; }": "c d", "a with { b = a; a = b; }": "", "a with { a = a; }": "", "a with { f(x) = x : y; }": "a y", "f with { f(x) = f(x); }": "", "f : x with { f(x) = x; }": "x", "a with { f(a) = a; }": "a",
		"a with { f(x) = g : x; g(y) = f : y : x; }": "a x", "(a with { a = 1; }) : a": "a", "a with { b = c; } with { c = d; a = e; }": "d e", "a with { b = c with { c = b : d; }; }": "a d", "x with { a = z; b = y; } with { z = w; }": "x y w",
		"env { a = b; }": "b", "env { a = b; b = a; }": "", "env { a = a; }": "", "env { a = b; } : a": "b a", "env { f(x, 0, y) = x : y : z; g = x; }": "z x", "env { a = b; }.a": "b", "env { a = env { b = a : b : c; }; c = 1; }": "", "env { a = env { b = 1; } : b; }": "b",
		"env { f(n) = 1; f(m) = n : m; }": "n", `env { a = \(x).(a : x : y); y = 1; }`: "", "par(i, a, i : a with { a = i; }) with { b = a; }": "a", "[b with { a = d; }, c with { a = b; }, a]": "b d c a",
	} {
		if got := term.Free(mustExpr(t, s)); !slices.Equal(got, strings.Fields(want)) {
			t.Errorf("Free of %s: got %v, want %s", s, got, want)
		}
	}
}

// P4.2: many names, each once.
func TestFreeOfMany(t *testing.T) {
	var names []string
	for i := range 300 {
		names = append(names, "n"+strconv.Itoa((i*7)%300))
	}
	s := "[" + strings.Join(names, ",") + "," + strings.Join(names[:200], ",") + "]"
	if got := term.Free(mustExpr(t, s)); !slices.Equal(got, names) {
		t.Errorf("Free: got %v", got)
	}
}
