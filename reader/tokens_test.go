package reader

import (
	"fmt"
	"strings"
	"testing"

	"lispprover/api"
)

// P5.1

// the kinds of bytes, as the chapter lists them
const (
	blanks       = " \t\n\r"
	constituents = "!#$%&*+,-./0123456789<=>?@ABCDEFGHIJKLMNOPQRSTUVWXYZ[\\]^_`abcdefghijklmnopqrstuvwxyz{}~"
)

func has(list string, b byte) bool {
	return strings.Contains(list, string(rune(b))) && b < 128
}

func TestKinds(t *testing.T) {
	if End != 0 || Open != 1 || Close != 2 || Dot != 3 || Quote != 4 || Number != 5 || Symbol != 6 || String != 7 {
		t.Error("a kind has another number")
	}
}

func TestTokens(t *testing.T) {
	expectTokens(t, "")
	expectTokens(t, "(a . (b 2/4))", mark(Open, 0), sym(1, "", "a"), mark(Dot, 3), mark(Open, 5), sym(6, "", "b"), num(8, "1", "2"), mark(Close, 11), mark(Close, 12))
	expectTokens(t, "'x", mark(Quote, 0), sym(1, "", "x"))
	expectTokens(t, "''()", mark(Quote, 0), mark(Quote, 1), mark(Open, 2), mark(Close, 3))
	expectTokens(t, ")(.')", mark(Close, 0), mark(Open, 1), mark(Dot, 2), mark(Quote, 3), mark(Close, 4))
	expectTokens(t, " lisp::car ", sym(1, "lisp", "car"))
	expectTokens(t, `"a"b|c|1"d"`, str(0, "a"), sym(3, "", "b"), sym(4, "", "c"), num(7, "1", "1"), str(8, "d"))
	expectTokens(t, `a"b"'c`, sym(0, "", "a"), str(1, "b"), mark(Quote, 4), sym(5, "", "c"))
	expectTokensError(t, `"ab`, api.ErrEnd, 3)
}

// TestEveryByte has every byte alone, after a word and between words.
func TestEveryByte(t *testing.T) {
	for i := range 256 {
		b := byte(i)
		alone, after, between := string([]byte{b}), string([]byte{'a', b}), string([]byte{'a', b, 'b'})
		switch {
		case has(blanks, b):
			expectTokens(t, alone)
			expectTokens(t, between, sym(0, "", "a"), sym(2, "", "b"))
		case has("()'", b):
			kind := strings.Index("?()?'", alone)
			expectTokens(t, alone, mark(kind, 0))
			expectTokens(t, between, sym(0, "", "a"), mark(kind, 1), sym(2, "", "b"))
		case b == ';':
			expectTokens(t, alone)
			expectTokens(t, between, sym(0, "", "a"))
		case has(`"|`, b):
			expectTokensError(t, alone, api.ErrEnd, 1)
			expectTokensError(t, after, api.ErrEnd, 2)
			expectTokensError(t, between, api.ErrEnd, 3)
		case b == '.':
			expectTokens(t, alone, mark(Dot, 0))
			expectTokens(t, between, sym(0, "", between))
		case has("0123456789", b):
			expectTokens(t, alone, num(0, alone, "1"))
			expectTokens(t, between, sym(0, "", between))
		case has(constituents, b):
			expectTokens(t, alone, sym(0, "", alone))
			expectTokens(t, between, sym(0, "", between))
		default:
			expectTokensError(t, alone, api.ErrSyntax, 0)
			expectTokensError(t, after, api.ErrSyntax, 1)
			expectTokensError(t, between, api.ErrSyntax, 1)
		}
	}
}

func TestWords(t *testing.T) {
	for _, word := range []string{"-", "+", "--", "-.", "..", "...", ".5", "1.", "1.5", "+1", "--1", "1-", "1-1", "-1-", "1/", "/", "/1", "-/1", "1//2", "1/2/3", "1/-2", "1/+2", "-1/", "1a", "a1", "1/a", "1/2a", "0x1", "1e5", "1_0", "#", "##", "#a", "a#", "\\", "\\a", "a\\b", "a.b", ".a", "a.", "<=", "A", "nil", many("n", api.MaxName)} {
		expectTokens(t, word, sym(0, "", word))
		expectTokens(t, " ("+word+")", mark(Open, 1), sym(2, "", word), mark(Close, 2+len(word)))
	}
	expectTokens(t, "(.)", mark(Open, 0), mark(Dot, 1), mark(Close, 2))
	expectTokensError(t, many("n", api.MaxName+1), api.ErrLimit, 0)
	expectTokensError(t, "a ("+many("-", api.MaxName+1)+")", api.ErrLimit, 3)
	expectTokensError(t, many(".", api.MaxSource), api.ErrLimit, 0)
}

func TestNumbers(t *testing.T) {
	for _, c := range [][3]string{
		{"0", "0", "1"}, {"-0", "0", "1"}, {"00", "0", "1"}, {"-000", "0", "1"}, {"7", "7", "1"}, {"-7", "-7", "1"}, {"007", "7", "1"}, {"-007", "-7", "1"}, {"700", "700", "1"},
		{"2/4", "1", "2"}, {"-2/4", "-1", "2"}, {"1/2", "1", "2"}, {"3/1", "3", "1"}, {"4/2", "2", "1"}, {"-4/2", "-2", "1"}, {"0/5", "0", "1"}, {"-0/5", "0", "1"}, {"0/1", "0", "1"}, {"5/5", "1", "1"},
		{"006/004", "3", "2"}, {"-006/0040", "-3", "20"}, {"1/01", "1", "1"}, {"1234567890/9876543210", "13717421", "109739369"},
		{many("9", 100), many("9", 100), "1"}, {"-" + many("9", 100), "-" + many("9", 100), "1"}, {many("0", 500) + many("9", 100), many("9", 100), "1"},
		{"1/" + many("9", 100), "1", many("9", 100)}, {"-1/" + many("0", 500) + many("9", 100), "-1", many("9", 100)},
		{"1" + many("0", 100) + "/10", "1" + many("0", 99), "1"}, {"10/1" + many("0", 100), "1", "1" + many("0", 99)}, {many("7", 2500) + "/" + many("7", 2500), "1", "1"},
	} {
		expectTokens(t, c[0], num(0, c[1], c[2]))
		expectTokens(t, "a "+c[0]+")", sym(0, "", "a"), num(2, c[1], c[2]), mark(Close, 2+len(c[0])))
	}
	for _, s := range []string{"1/0", "-1/0", "0/0", "-0/0", "7/000", "00/00", many("9", 101) + "/0"} {
		expectTokensError(t, s, api.ErrSyntax, 0)
		expectTokensError(t, "(b "+s+" c::", api.ErrSyntax, 3)
	}
	for _, s := range []string{"1" + many("0", 100), "-1" + many("0", 100), "1/1" + many("0", 100), many("9", 101) + "/" + many("8", 101) + "1", many("9", 2999) + "/" + many("7", 3000), "1" + many("0", 101) + "/10", "10/1" + many("0", 101)} {
		expectTokensError(t, s, api.ErrLimit, 0)
		if len(s) < api.MaxSource {
			expectTokensError(t, "\n"+s, api.ErrLimit, 1)
		}
	}
}

func TestStrings(t *testing.T) {
	for _, c := range [][2]string{
		{`""`, ""}, {`"a"`, "a"}, {`" "`, " "}, {`"\""`, `"`}, {`"\\"`, `\`}, {`"\\\\"`, `\\`}, {`"\\\""`, `\"`}, {`"a\"b\\c"`, `a"b\c`}, {`"(;|#|'::"`, "(;|#|'::"}, {"\"\n\r\t\x00\xff\x80é\"", "\n\r\t\x00\xff\x80é"}, {`"|#"`, "|#"},
		{`"` + many("s", api.MaxText) + `"`, many("s", api.MaxText)}, {`"` + many(`\"`, api.MaxText) + `"`, many(`"`, api.MaxText)}, {`"` + many(`\\`, api.MaxText) + `"`, many(`\`, api.MaxText)},
	} {
		expectTokens(t, c[0], str(0, c[1]))
		expectTokens(t, "(a"+c[0]+"b", mark(Open, 0), sym(1, "", "a"), str(2, c[1]), sym(2+len(c[0]), "", "b"))
	}
	for _, s := range []string{`"`, `"a`, `"\"`, `"\\\"`, `"a\`, `"\`, `"\\`, `"\\\`, `"(`, `"a;`, `"` + many("s", api.MaxText+1), `"` + many("s", api.MaxText+1) + `\`} {
		expectTokensError(t, s, api.ErrEnd, len(s))
		expectTokensError(t, "b ("+s, api.ErrEnd, len(s)+3)
	}
	expectTokensError(t, `"`+many("s", api.MaxText+1)+`"`, api.ErrLimit, 0)
	expectTokensError(t, `"`+many(`\\`, api.MaxText+1)+`"`, api.ErrLimit, 0)
	expectTokensError(t, ` "" "`+many(`é`, api.MaxText/2)+`e" "`, api.ErrLimit, 4)
	expectTokensError(t, `"`+many("s", api.MaxText+1)+`\s"`, api.ErrSyntax, api.MaxText+2)
}

// TestEscapes has every byte in a string and in bars, alone and after a backslash.
func TestEscapes(t *testing.T) {
	for i := range 256 {
		b := string([]byte{byte(i)})
		for _, m := range []string{`"`, "|"} {
			token := func(text string) Token {
				if m == "|" {
					return sym(0, "", text)
				}
				return str(0, text)
			}
			if b != m && b != `\` {
				expectTokens(t, m+b+m, token(b))
				expectTokens(t, m+"a"+b+"c"+m, token("a"+b+"c"))
				expectTokensError(t, m+`\`+b+m, api.ErrSyntax, 1)
				expectTokensError(t, m+`\`+b, api.ErrSyntax, 1)
				expectTokensError(t, m+`a\\b\`+b, api.ErrSyntax, 5)
			} else {
				expectTokens(t, m+`\`+b+m, token(b))
				expectTokens(t, m+`a\`+b+`c`+m, token("a"+b+"c"))
			}
			expectTokensError(t, m+`\`, api.ErrEnd, 2)
		}
	}
}

func TestBars(t *testing.T) {
	for _, c := range [][2]string{
		{`|a|`, "a"}, {`| |`, " "}, {`|\||`, "|"}, {`|\\|`, `\`}, {`|a\|b\\c|`, `a|b\c`}, {`|1|`, "1"}, {`|-1/0|`, "-1/0"}, {`|.|`, "."}, {`|a::b|`, "a::b"}, {"|\n\x00\xff|", "\n\x00\xff"}, {`|;|`, ";"}, {`|"|`, `"`}, {`|A|`, "A"},
		{`|` + many("n", api.MaxName) + `|`, many("n", api.MaxName)}, {`|` + many(`\|`, api.MaxName) + `|`, many("|", api.MaxName)}, {`|` + many(`\\`, api.MaxName) + `|`, many(`\`, api.MaxName)},
	} {
		expectTokens(t, c[0], sym(0, "", c[1]))
		expectTokens(t, "a-1::"+c[0], sym(0, "a-1", c[1]))
		expectTokens(t, "'a"+c[0]+"b", mark(Quote, 0), sym(1, "", "a"), sym(2, "", c[1]), sym(2+len(c[0]), "", "b"))
	}
	for _, s := range []string{`|`, `|a`, `|\|`, `|\\\|`, `|a\`, `|\`, `|(`, `|` + many("n", api.MaxName+1)} {
		expectTokensError(t, s, api.ErrEnd, len(s))
		expectTokensError(t, "A::"+s, api.ErrEnd, len(s)+3)
	}
	expectTokensError(t, "||", api.ErrName, 0)
	expectTokensError(t, " ||a::", api.ErrName, 1)
	expectTokensError(t, "lisp::||", api.ErrName, 0)
	expectTokensError(t, "|"+many("n", api.MaxName+1)+"|", api.ErrLimit, 0)
	expectTokensError(t, "|"+many(`\\`, api.MaxName+1)+"|", api.ErrLimit, 0)
	expectTokensError(t, "(lisp::|"+many("n", api.MaxName+1)+"|", api.ErrLimit, 1)
	expectTokensError(t, "a |"+many("n", api.MaxName+1)+`\"|`, api.ErrSyntax, api.MaxName+4)
}

func TestPackages(t *testing.T) {
	for _, p := range []string{"a", "lisp", "a-1", "z09", "a--", many("p", api.MaxName)} {
		for _, name := range []string{"b", "1", "-1/0", "1/0", ".", "#", "#b", "-", "A", "\\", many("n", api.MaxName), many("9", api.MaxName)} {
			s := p + "::" + name
			expectTokens(t, s, sym(0, p, name))
			expectTokens(t, "("+s+"("+s+" b", mark(Open, 0), sym(1, p, name), mark(Open, 1+len(s)), sym(2+len(s), p, name), sym(3+2*len(s), "", "b"))
		}
	}
	for _, p := range []string{"A", "1", "0", "-", "-1", "1/0", "1/2", ".", "..", "#", "a.b", "aB", "a_", "#a", "a#", "\\", "a+", many("p", api.MaxName+1), many("9", 200), many("p", 5000)} {
		expectTokensError(t, p+"::b", api.ErrName, 0)
		expectTokensError(t, "'"+p+"::|b| c::", api.ErrName, 1)
		// the name comes first
		expectTokensError(t, p+"::||", api.ErrName, 0)
		expectTokensError(t, p+"::"+many("n", api.MaxName+1), api.ErrLimit, 0)
		expectTokensError(t, p+"::|"+many("n", api.MaxName+1)+"|", api.ErrLimit, 0)
		expectTokensError(t, p+"::", api.ErrEnd, len(p)+2)
		expectTokensError(t, p+"::)", api.ErrSyntax, len(p)+2)
		expectTokensError(t, p+`::|\b|`, api.ErrSyntax, len(p)+3)
	}
	expectTokensError(t, "a::"+many("n", api.MaxName+1), api.ErrLimit, 0)
	expectTokensError(t, "a::"+many("9", 200), api.ErrLimit, 0)
}

func TestColons(t *testing.T) {
	for _, c := range []struct {
		s   string
		err api.Errno
		pos int
	}{
		{":", api.ErrSyntax, 0}, {"::", api.ErrSyntax, 0}, {"::a", api.ErrSyntax, 0}, {":a", api.ErrSyntax, 0}, {" ::a", api.ErrSyntax, 1},
		{"a:", api.ErrSyntax, 1}, {"a:b", api.ErrSyntax, 1}, {"a: :b", api.ErrSyntax, 1}, {"a ::b", api.ErrSyntax, 2}, {"1:", api.ErrSyntax, 1}, {".:", api.ErrSyntax, 1},
		{"a::", api.ErrEnd, 3}, {"(a::", api.ErrEnd, 4}, {"a:::", api.ErrSyntax, 3}, {"a::::b", api.ErrSyntax, 3}, {"a:::b", api.ErrSyntax, 3},
		{"a::b:", api.ErrSyntax, 4}, {"a::b::", api.ErrSyntax, 4}, {"a::b::c", api.ErrSyntax, 4}, {"|a|::b", api.ErrSyntax, 3}, {"|a|:", api.ErrSyntax, 3}, {`"a"::b`, api.ErrSyntax, 3}, {"(::b", api.ErrSyntax, 1}, {"a::|b|::c", api.ErrSyntax, 6},
		{"1/0:", api.ErrSyntax, 0}, {"1/0: b", api.ErrSyntax, 0}, {many("n", api.MaxName+1) + ":", api.ErrLimit, 0}, {many("9", api.MaxDigits+1) + ":", api.ErrLimit, 0}, {"A::b:", api.ErrName, 0},
	} {
		expectTokensError(t, c.s, c.err, c.pos)
	}
}

// TestAfterColons has every byte after the two colons.
func TestAfterColons(t *testing.T) {
	for i := range 256 {
		b := byte(i)
		s := "a::" + string([]byte{b})
		switch {
		case has(constituents, b):
			expectTokens(t, s, sym(0, "a", s[3:]))
			expectTokens(t, s+"c", sym(0, "a", s[3:]+"c"))
		case b == '|':
			expectTokensError(t, s, api.ErrEnd, 4)
		default:
			expectTokensError(t, s, api.ErrSyntax, 3)
			expectTokensError(t, s+"b", api.ErrSyntax, 3)
			expectTokensError(t, "A"+s[1:]+"b", api.ErrSyntax, 3)
		}
	}
}

func TestComments(t *testing.T) {
	for _, s := range []string{";", ";a", "; (\"|#|\n", ";\n;\n", ";\r", " \t\r\n", "#||#", "#|a|#", "#|||#", "#||||#", "#| \n |#", "#|\"|#", "#|;|#", "#|a::|#", "#| #| |# |#", "#|#||#|#", "#|#|a|#b|#", "#||##||#", "#|##|a|#|#", "#|a|b#c|#", "#|\xff\x00\\|#", ";#|\n", "#|\n;|#", "#|a\n|#;", "#| #|#| |#|# |#"} {
		expectTokens(t, s)
		expectTokens(t, "a "+s+"\nb", sym(0, "", "a"), sym(len(s)+3, "", "b"))
		expectTokens(t, "("+s+"\n(", mark(Open, 0), mark(Open, len(s)+2))
	}
	expectTokens(t, "a;b\nc", sym(0, "", "a"), sym(4, "", "c"))
	expectTokens(t, "a;b\rc", sym(0, "", "a"))
	expectTokens(t, "#|a|#b", sym(5, "", "b"))
	expectTokens(t, "'#|a|#b", mark(Quote, 0), sym(6, "", "b"))
	expectTokens(t, `"a"#|b|#"c"`, str(0, "a"), str(8, "c"))
	expectTokens(t, "|a|#|b|#c", sym(0, "", "a"), sym(8, "", "c"))
	expectTokens(t, "a::|b|#|c|#d", sym(0, "a", "b"), sym(11, "", "d"))
	expectTokens(t, "#||##|a|#b", sym(9, "", "b"))
	for _, s := range []string{"#|", "#|a", "#|a|", "#|a#", "#| #| |#", "#|#|#", "#|#|#|#", "#|#|", "#|;|\n", "#|#||#", "#||", "#|\n", "#|#"} {
		expectTokensError(t, s, api.ErrEnd, len(s))
		expectTokensError(t, "a "+s, api.ErrEnd, len(s)+2)
		expectTokensError(t, "#||#"+s, api.ErrEnd, len(s)+4)
	}
}

// TestNoComments: a # that continues a word, or follows the colons of a symbol, does not begin a comment.
func TestNoComments(t *testing.T) {
	expectTokens(t, "a#|b|#", sym(0, "", "a#"), sym(2, "", "b"), sym(5, "", "#"))
	expectTokens(t, "##|b|#", sym(0, "", "##"), sym(2, "", "b"), sym(5, "", "#"))
	expectTokens(t, "1#|b|", sym(0, "", "1#"), sym(2, "", "b"))
	expectTokens(t, "a::#|b|", sym(0, "a", "#"), sym(4, "", "b"))
	expectTokens(t, "a::#|b|#", sym(0, "a", "#"), sym(4, "", "b"), sym(7, "", "#"))
	expectTokens(t, "a::b#|c|", sym(0, "a", "b#"), sym(5, "", "c"))
	expectTokens(t, "# |b|#", sym(0, "", "#"), sym(2, "", "b"), sym(5, "", "#"))
	expectTokens(t, "#|a|##", sym(5, "", "#"))
	expectTokens(t, "|#|", sym(0, "", "#"))
	expectTokens(t, "|a|#", sym(0, "", "a"), sym(3, "", "#"))
	expectTokensError(t, "a#|b", api.ErrEnd, 4)
	expectTokensError(t, "a::#|", api.ErrEnd, 5)
	expectTokensError(t, "a#||", api.ErrName, 2)
	expectTokensError(t, "A::#|", api.ErrName, 0)
}

func TestOrderOfErrors(t *testing.T) {
	broken := []struct {
		s        string
		err      api.Errno
		pos, end int
	}{
		{"1/0", api.ErrSyntax, 0, 0}, {many("9", api.MaxDigits+1), api.ErrLimit, 0, 0}, {many("n", api.MaxName+1), api.ErrLimit, 0, 0}, {"A::b", api.ErrName, 0, 0}, {"||", api.ErrName, 0, 0}, {":", api.ErrSyntax, 0, 0}, {"\x00", api.ErrSyntax, 0, 0}, {"é", api.ErrSyntax, 0, 0}, {`"\a"`, api.ErrSyntax, 1, 0}, {`|\"|`, api.ErrSyntax, 1, 0}, {"a::(", api.ErrSyntax, 3, 0}, {`"` + many("s", api.MaxText+1) + `"`, api.ErrLimit, 0, 0},
		{`"`, api.ErrEnd, 0, 1}, {"|", api.ErrEnd, 0, 1}, {"#|", api.ErrEnd, 0, 1}, {"a::", api.ErrEnd, 0, 1},
	}
	for _, a := range broken {
		for _, b := range broken {
			s := "(x " + a.s
			if a.end == 1 {
				expectTokensError(t, s, a.err, len(s))
				continue
			}
			expectTokensError(t, s+" y "+b.s, a.err, 3+a.pos)
		}
	}
}

func TestMaxSource(t *testing.T) {
	expectTokens(t, many(" ", api.MaxSource))
	expectTokens(t, many(" ", api.MaxSource-1)+"a", sym(api.MaxSource-1, "", "a"))
	marks, want := many("(", api.MaxSource), []Token{}
	for i := range api.MaxSource {
		want = append(want, mark(Open, i))
	}
	expectTokens(t, marks, want...)
	expectTokensError(t, many(`"a"`, api.MaxSource/3-1)+`"aa`, api.ErrEnd, api.MaxSource)
	for _, s := range []string{many(" ", api.MaxSource+1), many("(", api.MaxSource+1), many(":", api.MaxSource+1), `"` + many("s", api.MaxSource), "1/0" + many(" ", api.MaxSource), many("#|", 500000)} {
		expectTokensError(t, s, api.ErrLimit, 0)
	}
}

// TestLongFractions: numbers that take long to reduce.
func TestLongFractions(t *testing.T) {
	a, b := fibonacci(2998)
	expectTokensError(t, a+"/"+b, api.ErrLimit, 0)
	c, d := fibonacci(90)
	expectTokens(t, c+many("0", 2900)+"/"+d+many("0", 2900), num(0, c, d))
	expectTokens(t, fmt.Sprint("-", c, many("0", 2900), "/", d, many("0", 2900)), num(0, "-"+c, d))
}
