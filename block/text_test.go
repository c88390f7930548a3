package block_test

import (
	"slices"
	"strings"
	"testing"

	"serinette/api"
	"serinette/block"
)

// written returns blocks by their texts.
func written() map[string]api.Block {
	m := map[string]api.Block{
		"(num 1/2)": num(1, 2), "(num 0)": num(0, 1), "(num -3)": num(-3, 1), "(num none)": numbered("num", none), "(num -1073741824/1073741823)": num(-api.MaxNum, api.MaxNum-1),
		"(fit fix(1,2,near,sat))": fit(format("fix", 1, 2, "near", "sat")), "(fit fix(30,0,floor,wrap))": fit(format("fix", 30, 0, "floor", "wrap")), "(fit float(2,1,zero,none))": fit(format("float", 2, 1, "zero", "none")),
		"(delay 0)": delay(0), "(delay 1)": delay(1), "(delay 4096)": delay(4096), "(vary 0 0)": vary(0, 0), "(vary 0 5)": vary(0, 5), "(vary 3 3)": vary(3, 3), "(vary 17 4096)": vary(17, 4096),
		"(table 1)": numbered("table", qs(1)...), "(table 1 none -1/2)": numbered("table", q(1, 1), none, q(-1, 2)), "(store 0 0)": numbered("store", qs(0, 0)...), "(wave 1 2 3)": numbered("wave", qs(1, 2, 3)...), "(table" + strings.Repeat(" 7", 256) + ")": numbered("table", slices.Repeat(qs(7), 256)...),
		`(knob "a/gain" 1 0 2 1/10)`: control("a/gain"), `(knob "0" -1/2 -1/2 -1/2 0)`: knob("0", q(-1, 2), q(-1, 2), q(-1, 2), q(0, 1)), `(show "a")`: show("a"), `(show "-_/9Z")`: show("-_/9Z"), `(show "` + strings.Repeat("x", 40) + `")`: show(strings.Repeat("x", 40)),
		"(up 1 wire)": turned("up", 1, wire()), "(up 8 (delay 2))": turned("up", 8, delay(2)), "(down 3 (up 2 cut))": turned("down", 3, turned("up", 2, cut())), "(gate wire)": one("gate", wire()), "(reset (gate add))": one("reset", one("gate", leaf("add"))),
		"(par wire cut)": two("par", wire(), cut()), "(seq (par wire (num 1/2)) mul)": two("seq", two("par", wire(), num(1, 2)), leaf("mul")), "(rec add (delay 1))": two("rec", leaf("add"), delay(1)), "(split wire (merge pick (split cut eq)))": two("split", wire(), two("merge", leaf("pick"), two("split", cut(), leaf("eq")))),
		// Ports that do not fit.
		"(seq cut wire)": two("seq", cut(), wire()), "(rec wire add)": two("rec", wire(), leaf("add")), "(merge cut (num 1))": two("merge", cut(), num(1, 1)), `(par (show "a") (show "a"))`: two("par", show("a"), show("a")), `(seq (knob "a" 1 0 2 1/10) (show "a"))`: two("seq", control("a"), show("a")),
	}
	for _, op := range plainOps() {
		m[op] = leaf(op)
	}
	for _, op := range joints() {
		m["("+op+" neg (delay 7))"] = two(op, leaf("neg"), delay(7))
	}
	return m
}

// P5.3: the text of each op, whether the ports fit or not.
func TestTextNamed(t *testing.T) {
	for want, b := range written() {
		if got, err := block.Text(b); got != want || err != api.OK {
			t.Errorf("Text of %s: got %q, %v, want %q", dump(b), got, err, want)
		}
		b.Kids, b.Nums = append([]api.Block{}, b.Kids...), append([]api.Q{}, b.Nums...)
		if got, err := block.Text(b); got != want || err != api.OK {
			t.Errorf("Text of %s with empty lists: got %q, %v", dump(b), got, err)
		}
		if got, err := block.Parse(want); !same(got, b) || err != api.OK {
			t.Errorf("Parse(%q): got %s, %v", want, dump(got), err)
		}
	}
}

// P5.3: blocks beyond the limits of Ports have a text, and are read.
func TestTextBeyondLimits(t *testing.T) {
	for want, b := range map[string]api.Block{
		strings.Repeat("(gate ", 100) + "wire" + strings.Repeat(")", 100): func() api.Block {
			b := wire()
			for range 100 {
				b = one("gate", b)
			}
			return b
		}(),
		strings.Repeat("(seq ", 700) + "wire" + strings.Repeat(" cut)", 700): func() api.Block {
			b := wire()
			for range 700 {
				b = two("seq", b, cut())
			}
			return b
		}(),
		strings.Repeat("(par ", 70) + "wire" + strings.Repeat(" (num 1))", 70): func() api.Block {
			b := wire()
			for range 70 {
				b = two("par", b, num(1, 1))
			}
			return b
		}(),
	} {
		if got, err := block.Text(b); got != want || err != api.OK {
			t.Errorf("Text: got %.200q, %v, want %.200q", got, err, want)
		}
		if got, err := block.Parse(want); !same(got, b) || err != api.OK {
			t.Errorf("Parse(%.200q): got %.200s, %v", want, dump(got), err)
		}
	}
	// A text may be longer than one that is read.
	b := balanced("par", copies(100, numbered("wave", slices.Repeat(qs(7), 256)...))...)
	text, err := block.Text(b)
	if len(text) < 50000 || err != api.OK {
		t.Errorf("Text of many numbers: %d bytes, %v", len(text), err)
	}
	if got, err := block.Parse(text); !isNothing(got) || err != api.ErrLimit {
		t.Errorf("Parse of many numbers: got %.200s, %v", dump(got), err)
	}
	if text, err := block.Text(nested(60000, wire())); len(text) != 60000*7+4 || err != api.OK {
		t.Errorf("Text of a deep block: %d bytes, %v", len(text), err)
	}
}

// P5.3: what is not valid has no text.
func TestTextOfNotValid(t *testing.T) {
	for _, b := range raw() {
		if isValid(b) {
			continue
		}
		for _, b := range []api.Block{b, two("par", wire(), b), one("gate", two("seq", b, cut()))} {
			if got, err := block.Text(b); got != "" || err != api.ErrArg {
				t.Errorf("Text of %.200s: got %q, %v", dump(b), got, err)
			}
		}
	}
}

// P5.3: spaces and line feeds around words and brackets, at least one between two words.
func TestParseBlanks(t *testing.T) {
	for text, want := range map[string]api.Block{
		" wire": wire(), "wire ": wire(), "\nwire\n": wire(), " \n \n wire \n\n ": wire(),
		"( par wire cut )": two("par", wire(), cut()), "(par\nwire\ncut)": two("par", wire(), cut()), "(par   wire \n  cut\n)\n": two("par", wire(), cut()), "\n(\npar\n\nwire\n \ncut\n)\n": two("par", wire(), cut()),
		"(par(delay 1)(delay 2))": two("par", delay(1), delay(2)), "(par(delay 1)wire)": two("par", delay(1), wire()), "(par wire(delay 1))": two("par", wire(), delay(1)), "(par (delay 1) (delay 2) )": two("par", delay(1), delay(2)), "(gate(gate(gate wire)))": one("gate", one("gate", one("gate", wire()))), "(up 2(up\n3 wire))": turned("up", 2, turned("up", 3, wire())),
		"( delay  1 )": delay(1), "(delay\n1)": delay(1), "( vary\n0\n5\n)": vary(0, 5), "(num\n 1/2 )": num(1, 2), "( table 1\n2 \n 3)": numbered("table", qs(1, 2, 3)...), "(num  none)": numbered("num", none),
		"(fit\nfix(1,2,near,sat))": fit(format("fix", 1, 2, "near", "sat")), "( fit   fix(1,2,near,sat) )": fit(format("fix", 1, 2, "near", "sat")), "(fit fix(1,2,near,sat)\n)\n": fit(format("fix", 1, 2, "near", "sat")), "(seq(fit float(2,1,near,sat))neg)": two("seq", fit(format("float", 2, 1, "near", "sat")), leaf("neg")),
		`( show  "a" )`: show("a"), "(show\n\"a\"\n)": show("a"), "( knob\n\"a/gain\"\n1\n0\n2\n1/10\n)": control("a/gain"), `(knob  "a/gain"  1 0   2 1/10)`: control("a/gain"),
	} {
		if got, err := block.Parse(text); !same(got, want) || err != api.OK {
			t.Errorf("Parse(%q): got %s, %v, want %s", text, dump(got), err, dump(want))
		}
	}
}

// refusedTexts tries texts of no blocks.
func refusedTexts(t *testing.T, l ...string) {
	t.Helper()
	for _, text := range l {
		if got, err := block.Parse(text); !isNothing(got) || err != api.ErrForm {
			t.Errorf("Parse(%.200q): got %.200s, %v, want ErrForm", text, dump(got), err)
		}
	}
}

// P5.3: texts of no form.
func TestParseRefusesForms(t *testing.T) {
	refusedTexts(t, "", " ", "\n", "   \n ", "(", ")", "()", "( )", "(()", "())", "((", "))", "(()())", `"a"`, `""`, `"`, "1", "1/2", "none", "fix(1,2,near,sat)", "a", "what", "Wire", "WIRE", "wire_", "wires", "_", "!", "+", "num", "fit", "delay", "vary", "table", "store", "wave", "knob", "show", "par", "seq", "split", "merge", "rec", "up", "down", "gate", "reset")
	refusedTexts(t, "(wire)", "(add)", "((par wire cut))", "((delay 1))", "(par (wire) cut)", "(gate (wire))", "(pick )", "( cut )", "(what)", "(what 1)", "(delay)", "(num)", "(fit)", "(show)", "(knob)", "(par)", "(par wire)", "(par wire cut cut)", "(gate)", "(gate wire wire)", "(up)", "(up 2)", "(up wire)", "(up wire 2)", "(up 2 wire wire)", "(vary 0)", "(vary 0 1 2)", "(delay 1 2)", "(delay 1 wire)", "(wire 1)", "(wire wire)", "(neg wire)", "(num 1 2)", "(num wire)", "(num (num 1))", "(table)", "(table wire)", "(table 1 wire)", "(table (1))", "(delay (1))", `(show "a" "b")`, `(show "a" wire)`, `(show "a" 1)`, `(wire "a")`, `(par "a" wire cut)`, "(par 1 wire cut)", "(seq 2 wire cut)", "(gate 1 wire)")
	refusedTexts(t, "(par wire cut", "par wire cut)", "(par wire cut))", "((par wire cut)", "(par wire cut) wire", "wire wire", "wire cut", "wire)", "(wire", "wire (", "wire ()", "(delay 1)(delay 1)", "(delay 1", "(delay 1))", "(delay 1) 1", "(num 1", "(table 1 2", "(par wire", "(par (delay 1) ", "(par (delay 1 wire)", `(show "a"`, `(knob "a" 1 0 2 1/10`, "(fit fix(1,2,near,sat)", "(fit fix(1,2,near,sat", "[par wire cut]", "{par wire cut}", "par(wire cut)", "par(wire,cut)", "(par, wire, cut)", "(par wire,cut)", "(par wire;cut)", "wire;", "wire,", "// a\nwire", "(par wire () cut)", "(par () wire cut)")
	refusedTexts(t, "\twire", "wire\t", "(par\twire cut)", "(par wire\tcut)", "(par wire cut\t)", "wire\r\n", "\rwire", "(par\rwire cut)", "wire\x00", "\x00wire", "wire\v", "wire\f", "\u00a0wire", "(par\u00a0wire cut)", "\ufeffwire", "wir\xe9", "\xff", "(\xff)", "(par wire \xff)", "(num \xff)", "(show \"\xff\")", "é")
	refusedTexts(t, strings.Repeat("(", 8000), strings.Repeat(")", 8000), strings.Repeat("(gate", 1600), strings.Repeat("(gate ", 1333), strings.Repeat("(par ", 1600), strings.Repeat("(fit ", 1600), strings.Repeat("(num ", 1600), strings.Repeat("wire ", 1600), strings.Repeat("()", 4000), strings.Repeat("1", 8000), "(num "+strings.Repeat("1", 7000)+")", "(delay "+strings.Repeat("9", 7000)+")", strings.Repeat("\"", 8000), strings.Repeat(" ", 8000), strings.Repeat("x", 8000))
}

// P5.3: each word stands as Text writes it, apart from the next.
func TestParseRefusesWords(t *testing.T) {
	refusedTexts(t, "(delay1)", "(delay 01)", "(delay 00)", "(delay +1)", "(delay -0)", "(delay -1)", "(delay 1.0)", "(delay 1/1)", "(delay 0x1)", "(delay 1_0)", "(delay 1e1)", "(delay none)", `(delay "1")`, "(delay \u0661)", "(delay 4097)", "(delay 18446744073709551617)", "(delay 9223372036854775808)", "(delay 1 0)", "(vary 01 2)", "(vary 1 02)", "(vary 2 1)", "(vary -1 1)", "(vary 0 4097)", "(vary12)", "(vary 1,2)", "(up 0 wire)", "(up 9 wire)", "(up -1 wire)", "(up 02 wire)", "(up2 wire)", "(up 2wire)", "(down 0 wire)", "(down 9 wire)", "(down 1/1 wire)")
	refusedTexts(t, "(num1)", "(num 01)", "(num -0)", "(num +1)", "(num 2/4)", "(num 1/1)", "(num 0/1)", "(num 4/2)", "(num 0.5)", "(num 1.0)", "(num 1/02)", "(num 01/2)", "(num 1 /2)", "(num 1/ 2)", "(num - 1)", "(num --1)", "(num 1/0)", "(num 1/-2)", "(num /2)", "(num 1/)", "(num None)", "(num nan)", "(num 1073741825)", "(num -1073741825)", "(num 1/1073741825)", "(num 12345678901)", "(num 99999999999999999999)", "(num 1e3)", `(num "1")`, "(num 1,)", "(num fix(1,2,near,sat))", "(num none none)", "(table 1 2/4)", "(table 1, 2)", "(table1 2)", "(wave 00)", "(store 1 -0)", "(table"+strings.Repeat(" 7", 257)+")")
	refusedTexts(t, "(fit fix (1,2,near,sat))", "(fit fix( 1,2,near,sat))", "(fit fix(1, 2,near,sat))", "(fit fix(1,2 ,near,sat))", "(fit fix(1,2,near,sat ))", "(fit fix(1,2,near,\nsat))", "(fit fix\n(1,2,near,sat))", "(fit fix(1 2 near sat))", "(fit fix(01,2,near,sat))", "(fit fix(1,2,near))", "(fit fix(1,2,near,sat,none))", "(fit fix(31,0,near,sat))", "(fit float(2,1,near,wrap))", "(fit Fix(1,2,near,sat))", "(fit fix)", "(fit fix())", "(fit ())", "(fit (fix(1,2,near,sat)))", "(fit 1)", "(fit wire)", `(fit "fix(1,2,near,sat)")`, "(fitfix(1,2,near,sat))", "(fit(1,2,near,sat))", "(fit fix(1,2,near,sat)fix(1,2,near,sat))", "(fit fix(1,2,near,sat) fix(1,2,near,sat))", "(fit fix(1,2,near,sat)wire)", "(fit fix(1,2,near,sat) wire)", "(fit fix(1,2,near,sat) 1)", "(fit fix(1,2,near,sat)", "fit fix(1,2,near,sat)", "(fit fix[1,2,near,sat])", "(fit fix(1,2,near,sat)))")
	refusedTexts(t, `(show"a")`, `(show a)`, `(show 'a')`, `(show "a)`, `(show a")`, `(show ")`, `(show "")`, `(show """)`, `(show "a"")`, `(show ""a")`, `(show "a""b")`, `(show "a"b)`, `(show b"a")`, `(show " a")`, `(show "a ")`, `(show "a b")`, "(show \"a\n\")", `(show "a(b")`, `(show "a)b")`, `(show "(a)")`, `(show "a.b")`, `(show "a\"b")`, `(show "é")`, `(show "`+strings.Repeat("x", 41)+`")`, `(show none)`, `(show "a"wire)`, `(show "a"(delay 1))`)
	refusedTexts(t, `(knob"a" 1 0 2 1)`, `(knob "a"1 0 2 1)`, `(knob "a""b" 1 0 2 1)`, `(knob a 1 0 2 1)`, `(knob 1 0 2 1)`, `(knob 1 0 2 1 "a")`, `(knob "a" 1 0 2)`, `(knob "a" 1 0 2 1 1)`, `(knob "a" 1 0 2 none)`, `(knob "a" none 0 2 1)`, `(knob "a" 3 0 2 1)`, `(knob "a" -1 0 2 1)`, `(knob "a" 1 0 2 -1)`, `(knob "a" 1 2 0 1)`, `(knob "a" 1 0 1073741824 1/2)`, `(knob "a" 2/2 0 2 1)`, `(knob "a" 1 0 2 0/1)`, `(knob "a" 1 0 2 wire)`, `(knob "" 1 0 2 1)`, `(knob "a b" 1 0 2 1)`, `(knob  1 0 2 1)`)
	refusedTexts(t, "(parwire cut)", "(par wirecut)", "(parwirecut)", "(gatewire)", "(Par wire cut)", "(PAR wire cut)", "(par Wire cut)", "(seq_ wire cut)", `(par"wire" cut)`, `("par" wire cut)`, "(1 wire cut)", "(par 1 2)", "(par none cut)")
}

// P5.3: texts at MaxText, and longer, whatever they are.
func TestParseLongTexts(t *testing.T) {
	for _, text := range []string{"wire", "(par wire cut)", `(show "a")`, "(fit fix(1,2,near,sat))"} {
		want := written()[text]
		for _, n := range []int{0, 1, api.MaxText - len(text) - 1, api.MaxText - len(text)} {
			for _, blank := range []string{" ", "\n"} {
				if got, err := block.Parse(strings.Repeat(blank, n) + text); !same(got, want) || err != api.OK {
					t.Errorf("Parse of %d blanks and %q: got %s, %v", n, text, dump(got), err)
				}
				if got, err := block.Parse(text + strings.Repeat(blank, n)); !same(got, want) || err != api.OK {
					t.Errorf("Parse of %q and %d blanks: got %s, %v", text, n, dump(got), err)
				}
			}
		}
		for _, n := range []int{1, 2, 1000, 100000} {
			for _, text := range []string{strings.Repeat(" ", api.MaxText-len(text)+n) + text, text + strings.Repeat("\n", api.MaxText-len(text)+n), strings.Repeat("(", api.MaxText+n), strings.Repeat("x", api.MaxText+n), strings.Repeat(" ", api.MaxText+n), strings.Repeat("\xff", api.MaxText+n)} {
				if got, err := block.Parse(text); !isNothing(got) || err != api.ErrLimit {
					t.Errorf("Parse of %d bytes: got %.200s, %v, want ErrLimit", len(text), dump(got), err)
				}
			}
		}
	}
	long := "(table" + strings.Repeat(" -1073741824/1073741823", 256) + ")"
	if got, err := block.Parse(long); !same(got, numbered("table", slices.Repeat([]api.Q{q(-api.MaxNum, api.MaxNum-1)}, 256)...)) || err != api.OK {
		t.Errorf("Parse of a long table: got %.200s, %v", dump(got), err)
	}
}
