package lex_test

import (
	"regexp"
	"slices"
	"strings"
	"testing"

	"packtrail/api"
	"packtrail/lex"
)

// What C1 says, once more, in another way, so that Scan is not held against itself.
var (
	gapForm    = regexp.MustCompile(`^([ \n]|--[^\n]*)*`)
	rowForm    = regexp.MustCompile(`^[0-9A-Za-z_]+`)
	numberForm = regexp.MustCompile(`^(0|[1-9][0-9]*)$`)
	textForm   = regexp.MustCompile(`^"[ !#-~]*"`)
	signForm   = regexp.MustCompile(`^(==|<=|\.\.|[](){}[,;=<+*/%#-])`)
)

// plainToken is the token that a text begins with, and how many bytes it takes, or what is wrong.
func plainToken(text string) (int, string, int, api.Errno) {
	const greatest = "9223372036854775807"
	if s := textForm.FindString(text); s != "" {
		if len(s) > api.MaxLong+2 {
			return 0, "", 0, api.ErrSize
		}
		return api.KText, strings.Trim(s, `"`), len(s), api.OK
	}
	if s := signForm.FindString(text); s != "" {
		return api.KSign, s, len(s), api.OK
	}
	s := rowForm.FindString(text)
	switch {
	case s == "":
		return 0, "", 0, api.ErrForm
	case s[0] > '9' && len(s) > 16:
		return 0, "", 0, api.ErrSize
	case s[0] > '9':
		return api.KWord, s, len(s), api.OK
	case !numberForm.MatchString(s):
		return 0, "", 0, api.ErrForm
	case len(s) > len(greatest) || len(s) == len(greatest) && s > greatest:
		return 0, "", 0, api.ErrRange
	}
	return api.KNumber, s, len(s), api.OK
}

// plainScan does what C2 says.
func plainScan(text string) ([]api.Token, api.Fault) {
	if len(text) > api.MaxText {
		return nil, api.Fault{Code: api.ErrSize}
	}
	var out []api.Token
	for at := 0; ; {
		at += len(gapForm.FindString(text[at:]))
		if at == len(text) {
			return out, api.Fault{}
		}
		kind, s, size, code := plainToken(text[at:])
		if code != api.OK {
			return nil, api.Fault{Code: code, At: at}
		}
		out = append(out, api.Token{Kind: kind, Text: s, At: at})
		at += size
	}
}

// agrees holds Scan against plainScan.
func agrees(t *testing.T, text string) {
	t.Helper()
	got, f := lex.Scan(text)
	if want, g := plainScan(text); !slices.Equal(got, want) || f != g {
		t.Fatalf("Scan(%q): %v, %v; want %v, %v", text, got, f, want, g)
	}
}

// C1, C2: all texts of up to four of these pieces.
func TestAllShort(t *testing.T) {
	pieces := []string{"a", "Z", "0", "7", "_", " ", "\n", "-", "--", "=", "<", ".", `"`, "#", "\t", "\xff"}
	texts := []string{""}
	for range 4 {
		var longer []string
		for _, s := range texts {
			for _, p := range pieces {
				longer = append(longer, s+p)
				agrees(t, s+p)
			}
		}
		texts = longer
	}
}

// C1, C2: rows of longer pieces; the numbers come from a fixed rule, so that each run is the same.
func TestRows(t *testing.T) {
	pieces := []string{
		"while", "abcdefghijklmnop", "abcdefghijklmnopq", "_9", "0", "10", "9223372036854775807", "9223372036854775808", "07", "1a",
		`"a"`, `""`, `"a -- b"`, `"`, " ", " ", " ", "\n", "\n", "--", "-- note\n", "==", "=", "<=", "<", "..", ".", "(", ")", "{", "}", "[", "]", ",", ";", "+", "-", "*", "/", "%", "#", "!",
	}
	for i, at := 0, 1; i < 5000; i++ {
		var text strings.Builder
		for range i % 12 {
			at = at * 75 % 65537
			text.WriteString(pieces[at/5%len(pieces)])
		}
		agrees(t, text.String())
	}
}

// C1, C2, P1: no text makes Scan panic, or answer anything else than what is said.
func FuzzScan(f *testing.F) {
	for _, s := range []string{"", `x=="a--b"--c`, "a 07", "9223372036854775808", `"a`, " abcdefghijklmnopq", "a ... b", "\x00\xff", "--\n-- \n-"} {
		f.Add(s)
	}
	f.Fuzz(func(t *testing.T, text string) { agrees(t, text) })
}
