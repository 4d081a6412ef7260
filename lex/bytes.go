package lex

// span is the bytes from one to another, both among them.
type span [2]byte

// within makes a question of bytes: whether one lies in any of the spans.
func within(spans ...span) func(byte) bool {
	return func(b byte) bool {
		for _, s := range spans {
			if s[0] <= b && b <= s[1] {
				return true
			}
		}
		return false
	}
}

// outside makes a question of bytes: whether one is another than this.
func outside(end byte) func(byte) bool {
	return func(b byte) bool { return b != end }
}

// run counts the bytes that go on from a text's beginning, up to the first that does not.
func run(text string, goesOn func(byte) bool) int {
	n := 0
	for n < len(text) && goesOn(text[n]) {
		n++
	}
	return n
}
