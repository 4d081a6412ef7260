package lex_test

import (
	"math"
	"slices"
	"strconv"
	"strings"
	"testing"
	"unsafe"

	"packtrail/api"
	"packtrail/lex"
)

// signs has all of them, as C1 names them.
const signs = "( ) { } [ ] , ; = == < <= + - * / % .. #"

func word(s string, at int) api.Token   { return api.Token{Kind: api.KWord, Text: s, At: at} }
func number(s string, at int) api.Token { return api.Token{Kind: api.KNumber, Text: s, At: at} }
func quote(s string, at int) api.Token  { return api.Token{Kind: api.KText, Text: s, At: at} }
func sign(s string, at int) api.Token   { return api.Token{Kind: api.KSign, Text: s, At: at} }

// scans asks for a text's tokens, and holds them against those that are wanted.
func scans(t *testing.T, text string, want ...api.Token) {
	t.Helper()
	if got, f := lex.Scan(text); !slices.Equal(got, want) || f != (api.Fault{}) {
		t.Errorf("Scan(%q): %v, %v; want %v", text, got, f, want)
	}
}

// refuses asks for the tokens of a text that is wrong: there must be none (P2).
func refuses(t *testing.T, text string, code api.Errno, at int) {
	t.Helper()
	if got, f := lex.Scan(text); len(got) != 0 || f != (api.Fault{Code: code, At: at}) {
		t.Errorf("Scan(%q): %v, %v; want %v at %d", text, got, f, code, at)
	}
}

// C1, C2: the document's own example, and a program.
func TestScan(t *testing.T) {
	scans(t, `x=="a--b"--c`, word("x", 0), sign("==", 1), quote("a--b", 3))
	scans(t, "local t = {}; -- new\nt[1]=\"a\"..2;",
		word("local", 0), word("t", 6), sign("=", 8), sign("{", 10), sign("}", 11), sign(";", 12),
		word("t", 21), sign("[", 22), number("1", 23), sign("]", 24), sign("=", 25), quote("a", 26), sign("..", 29), number("2", 31), sign(";", 32))
	scans(t, "if#a<=-b then", word("if", 0), sign("#", 2), word("a", 3), sign("<=", 4), sign("-", 6), word("b", 7), word("then", 9))
}

// C1: blanks and notes stand between tokens, at the beginning, at the end, and alone.
func TestBetween(t *testing.T) {
	for _, gap := range []string{"", " ", "\n", " \n\n  ", "--", "--\n", "----", "---", "-- a \"b\n", "--\x00\t\r\x7f\xff\n", "--a\n --b\n", "--a\n--b", "--.>07\n"} {
		scans(t, gap)
		scans(t, "a"+gap, word("a", 0))
		scans(t, "7"+gap, number("7", 0))
		scans(t, `"a"`+gap, quote("a", 0))
		scans(t, "="+gap, sign("=", 0))
		ended := gap + "\n"
		scans(t, ended+"a", word("a", len(ended)))
		scans(t, "a"+ended+"a", word("a", 0), word("a", 1+len(ended)))
		refuses(t, ended+".", api.ErrForm, len(ended))
	}
	scans(t, "a--b", word("a", 0))
	scans(t, "- -", sign("-", 0), sign("-", 2))
	scans(t, "-\n-", sign("-", 0), sign("-", 2))
	scans(t, "---")
}

// C1: no other byte is a blank.
func TestNoBlank(t *testing.T) {
	for _, gap := range []string{"\t", "\r", "\v", "\f", "\x00", "\x1f", "\u00a0", "\u2028", "\ufeff"} {
		refuses(t, gap, api.ErrForm, 0)
		refuses(t, "a"+gap+"a", api.ErrForm, 1)
		refuses(t, "a --b\n"+gap, api.ErrForm, 6)
	}
}

// C1: of each byte whether it begins a token, and which one.
func TestBegins(t *testing.T) {
	for i := range 256 {
		b := string([]byte{byte(i)})
		switch {
		case b >= "a" && b <= "z", b >= "A" && b <= "Z", b == "_":
			scans(t, b, word(b, 0))
		case b >= "0" && b <= "9":
			scans(t, b, number(b, 0))
		case b == " ", b == "\n":
			scans(t, b)
		case slices.Contains(strings.Fields(signs), b):
			scans(t, b, sign(b, 0))
		default:
			refuses(t, b, api.ErrForm, 0)
			refuses(t, "a "+b, api.ErrForm, 2)
		}
	}
}

// C1: of each byte whether a word and a number go on by it.
func TestGoesOn(t *testing.T) {
	for i := range 256 {
		b := string([]byte{byte(i)})
		switch {
		case b >= "0" && b <= "9":
			scans(t, "a"+b+"a", word("a"+b+"a", 0))
			scans(t, "1"+b+"1", number("1"+b+"1", 0))
		case b >= "a" && b <= "z", b >= "A" && b <= "Z", b == "_":
			scans(t, "a"+b+"a", word("a"+b+"a", 0))
			refuses(t, "1"+b+"1", api.ErrForm, 0)
		case b == " ", b == "\n":
			scans(t, "a"+b+"a", word("a", 0), word("a", 2))
			scans(t, "1"+b+"1", number("1", 0), number("1", 2))
		case slices.Contains(strings.Fields(signs), b):
			scans(t, "a"+b+"a", word("a", 0), sign(b, 1), word("a", 2))
			scans(t, "1"+b+"1", number("1", 0), sign(b, 1), number("1", 2))
		default:
			refuses(t, "a"+b+"a", api.ErrForm, 1)
			refuses(t, "1"+b+"1", api.ErrForm, 1)
		}
	}
}

// C1: of each byte whether it may stand in a text; C2: where not, the fault is at the quote.
func TestInText(t *testing.T) {
	for i := range 256 {
		b := string([]byte{byte(i)})
		switch {
		case b == `"`:
			refuses(t, ` "`+b+`"`, api.ErrForm, 3)
		case i >= 32 && i <= 126:
			scans(t, ` "`+b+`"`, quote(b, 1))
		default:
			refuses(t, ` "`+b+`"`, api.ErrForm, 1)
			refuses(t, ` "a`+b+`a" `, api.ErrForm, 1)
			refuses(t, `"a" "a`+b, api.ErrForm, 4)
		}
	}
}

// C1, C2: texts that are empty, side by side, never ended.
func TestQuotes(t *testing.T) {
	scans(t, `""`, quote("", 0))
	scans(t, `"a""b"`, quote("a", 0), quote("b", 3))
	scans(t, `""""`, quote("", 0), quote("", 2))
	scans(t, `a"b"7"c"=`, word("a", 0), quote("b", 1), number("7", 4), quote("c", 5), sign("=", 8))
	scans(t, `"\"`, quote(`\`, 0))
	scans(t, `"\n"`, quote(`\n`, 0))
	scans(t, `"--"--"`, quote("--", 0))
	refuses(t, `"`, api.ErrForm, 0)
	refuses(t, `a "`, api.ErrForm, 2)
	refuses(t, `"a`, api.ErrForm, 0)
	refuses(t, `"""`, api.ErrForm, 2)
	refuses(t, `"\""`, api.ErrForm, 3)
	refuses(t, "\"a--\nb\"", api.ErrForm, 0)
}

// C1: each sign alone, and each two, with a blank between and without; the longer one is taken first.
func TestSigns(t *testing.T) {
	all := strings.Fields(signs)
	for _, a := range all {
		scans(t, a, sign(a, 0))
		for _, b := range all {
			scans(t, a+" "+b, sign(a, 0), sign(b, len(a)+1))
			if both := a + b; both != "==" && both != "<=" && both != "===" && both != "<==" && both != "--" {
				scans(t, both, sign(a, 0), sign(b, len(a)))
			}
		}
	}
	scans(t, "===", sign("==", 0), sign("=", 2))
	scans(t, "====", sign("==", 0), sign("==", 2))
	scans(t, "<==", sign("<=", 0), sign("=", 2))
	scans(t, "<<=", sign("<", 0), sign("<=", 1))
	scans(t, "=<", sign("=", 0), sign("<", 1))
	scans(t, "....", sign("..", 0), sign("..", 2))
	refuses(t, "...", api.ErrForm, 2)
	refuses(t, ". .", api.ErrForm, 0)
	refuses(t, "1.5", api.ErrForm, 1)
	refuses(t, "=>", api.ErrForm, 1)
	refuses(t, "~=", api.ErrForm, 0)
	scans(t, "1..2", number("1", 0), sign("..", 1), number("2", 3))
}

// C1, C2: numbers up to the greatest; 0 ahead of others, and letters behind, are told ahead of what is too great.
func TestNumbers(t *testing.T) {
	for _, s := range []string{"0", "9", "10", "100", "2147483648", "9223372036854775806", "9223372036854775807"} {
		scans(t, " "+s+" ", number(s, 1))
		refuses(t, s+"a", api.ErrForm, 0)
		refuses(t, s+"_", api.ErrForm, 0)
		refuses(t, "a 0"+s, api.ErrForm, 2)
	}
	for _, s := range []string{"9223372036854775808", "9223372036854775810", "10000000000000000000", "18446744073709551616", "18446744073709551617", strings.Repeat("9", 1000)} {
		refuses(t, s, api.ErrRange, 0)
		refuses(t, "a - "+s, api.ErrRange, 4)
		refuses(t, s+"a", api.ErrForm, 0)
		refuses(t, "0"+s, api.ErrForm, 0)
	}
	for _, s := range []string{"00", "07", "0a", "0_", "0x1", "1e3", "1_000", "7a7"} {
		refuses(t, s, api.ErrForm, 0)
		refuses(t, "="+s, api.ErrForm, 1)
	}
	scans(t, "-0", sign("-", 0), number("0", 1))
	scans(t, "+7", sign("+", 0), number("7", 1))
	scans(t, strconv.Itoa(math.MaxInt32), number("2147483647", 0))
}

// C2: words of up to 16 bytes, texts of up to MaxLong.
func TestLong(t *testing.T) {
	for _, s := range []string{"abcdefghijklmnop", "_123456789012345", "________________"} {
		scans(t, " "+s, word(s, 1))
		refuses(t, " "+s+"q", api.ErrSize, 1)
		refuses(t, " "+s+"0", api.ErrSize, 1)
		refuses(t, " "+s+s+s, api.ErrSize, 1)
		scans(t, s+"="+s, word(s, 0), sign("=", 16), word(s, 17))
	}
	long := strings.Repeat("m", api.MaxLong)
	scans(t, ` "`+long+`"a`, quote(long, 1), word("a", 303))
	refuses(t, ` "`+long+`m"`, api.ErrSize, 1)
	refuses(t, `a "`+long+long+`"`, api.ErrSize, 2)
	refuses(t, `"`+long+"m", api.ErrForm, 0)
	refuses(t, `"`+long+"m\n\"", api.ErrForm, 0)
	refuses(t, `"`+long+"m\x80\"", api.ErrForm, 0)
}

// C2: the first fault from the left is told, whichever comes behind it.
func TestFirstFault(t *testing.T) {
	wrong := []struct {
		text string
		code api.Errno
	}{
		{".", api.ErrForm}, {"\t", api.ErrForm}, {"07", api.ErrForm}, {"7a", api.ErrForm}, {"\"\t\"", api.ErrForm},
		{"9223372036854775808", api.ErrRange}, {"abcdefghijklmnopq", api.ErrSize},
		{`"` + strings.Repeat(" ", api.MaxLong+1) + `"`, api.ErrSize},
	}
	for _, a := range wrong {
		for _, b := range wrong {
			refuses(t, a.text+" "+b.text, a.code, 0)
			refuses(t, "a; "+a.text+"\n"+b.text, a.code, 3)
			refuses(t, "--"+b.text+"\n"+a.text, a.code, len(b.text)+3)
		}
	}
}

// C2: a text of MaxText bytes may be; a longer one is refused at 0, whatever else is wrong with it.
func TestMaxText(t *testing.T) {
	got, f := lex.Scan(strings.Repeat("#", api.MaxText))
	if len(got) != api.MaxText || f != (api.Fault{}) {
		t.Errorf("%d tokens, %v", len(got), f)
	}
	for i, x := range got {
		if x != sign("#", i) {
			t.Fatalf("token %d: %v", i, x)
		}
	}
	scans(t, strings.Repeat(" ", api.MaxText-1)+"a", word("a", api.MaxText-1))
	scans(t, "--"+strings.Repeat("x", api.MaxText-2))
	refuses(t, strings.Repeat(" ", api.MaxText-1)+".", api.ErrForm, api.MaxText-1)
	for _, b := range []string{" ", "#", "\n", "a", "7", ".", `"`, "--", "\xff"} {
		refuses(t, strings.Repeat(b, api.MaxText+1), api.ErrSize, 0)
		refuses(t, strings.Repeat(b, 100*api.MaxText), api.ErrSize, 0)
		refuses(t, b+strings.Repeat(" ", api.MaxText), api.ErrSize, 0)
	}
}

// overlaps tells whether two texts have memory in common.
func overlaps(a, b string) bool {
	if a == "" || b == "" {
		return false
	}
	at, from := uintptr(unsafe.Pointer(unsafe.StringData(a))), uintptr(unsafe.Pointer(unsafe.StringData(b)))
	return at < from+uintptr(len(b)) && from < at+uintptr(len(a))
}

// P3: no token keeps a piece of the text, and two calls share no list.
func TestNewMemory(t *testing.T) {
	text := strings.Clone(`name 123 "some text" == ; ..`)
	got, _ := lex.Scan(text)
	for _, x := range got {
		if overlaps(x.Text, text) {
			t.Errorf("%v keeps a piece of what was handed in", x)
		}
	}
	again, _ := lex.Scan(text)
	want := slices.Clone(again)
	got = got[:cap(got)]
	for i := range got {
		got[i] = word("over", -1)
	}
	if !slices.Equal(again, want) || len(want) != 6 {
		t.Errorf("%v, want %v", again, want)
	}
}
