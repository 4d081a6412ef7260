package drive_test

import (
	"fmt"
	"regexp"
	"strconv"
	"strings"
	"testing"
	"unsafe"

	"packtrail/api"
	"packtrail/compile"
	"packtrail/drive"
	"packtrail/jit"
	"packtrail/machine"
	"packtrail/model"
	"packtrail/sample"
	"packtrail/value"
)

// The forms of lines (R2).
var (
	programForm = regexp.MustCompile(`^program (.*)$`)
	numberForm  = regexp.MustCompile(strings.ReplaceAll(`^(?:(mean|run)|trace (N) (N) (N) (N)) (N)$`, "N", "0|[1-9][0-9]{0,5}"))
)

// plain is Play, as R1 and R2 say it, with one program at a time that is made anew each time that it is asked for.
func plain(script string) string {
	lines := strings.Split(script, "\n")
	if lines[len(lines)-1] == "" {
		lines = lines[:len(lines)-1]
	}
	text, is, answer := "", false, ""
	for _, line := range lines[:min(len(lines), 40)] {
		if m := programForm.FindStringSubmatch(line); m != nil {
			p, fault := compile.Make(m[1])
			if fault.Code == api.OK {
				text, is = m[1], true
				answer += fmt.Sprintf("ok %d\n", len(p.Funs))
			} else {
				answer += fmt.Sprintf("bad %d %d\n", fault.Code, fault.At)
			}
			continue
		}
		switch m := numberForm.FindStringSubmatch(line); {
		case m == nil:
			answer += "?\n"
		case !is:
			answer += "none\n"
		default:
			answer += ran(text, m[1], m[2:]) + "\n"
		}
	}
	return answer
}

// ran is the answer to a line that asks for a run of a program; trace has no word.
func ran(text, word string, numbers []string) string {
	var n [5]int
	for i, number := range numbers {
		n[i], _ = strconv.Atoi(number)
	}
	if word == "mean" {
		s, fault := model.Run(text, n[4])
		return ended(s.End, fault.Code, s.Err, s.Last, s.Out)
	}
	p, _ := compile.Make(text)
	s, code := machine.Begin(p)
	if word == "run" {
		s, code = machine.Go(p, s, n[4])
	} else {
		s, _, code = jit.Run(p, api.Policy{Hot: n[0], Most: n[1], Cache: n[2], Tries: n[3]}, n[4])
	}
	return ended(s.End, code, s.Err, value.Text(s.Last), s.Out)
}

func ended(end int, code, err api.Errno, last string, out []string) string {
	if code != api.OK {
		return fmt.Sprint("bad ", int(code))
	}
	answer := "fuel"
	switch end {
	case api.EndDone:
		answer = "done " + last
	case api.EndFailed:
		answer = fmt.Sprint("failed ", int(err))
	}
	for _, text := range out {
		answer += " | " + text
	}
	return answer
}

// agrees plays a script, and holds its answer against the plain one, and against those to its beginnings (R3).
func agrees(t *testing.T, script string) string {
	t.Helper()
	got := drive.Play(script)
	if want := plain(script); got != want {
		t.Fatalf("Play(%q):\n%q; want\n%q", script, got, want)
	}
	lines := 0
	for i := range script {
		if script[i] != '\n' {
			continue
		}
		lines++
		if begun := drive.Play(script[:i+1]); !strings.HasPrefix(got, begun) || strings.Count(begun, "\n") != min(lines, 40) {
			t.Fatalf("Play(%q): %q; of its first %d lines: %q", script, got, lines, begun)
		}
	}
	return got
}

// writer writes scripts by a fixed rule.
type writer uint64

func (w *writer) roll(n int) int {
	*w = *w*6364136223846793005 + 1442695040888963407
	return int(*w>>33) % n
}

func (w *writer) one(words ...string) string { return words[w.roll(len(words))] }

// script is the script of a number.
func script(number int) string {
	w := writer(number)
	s := ""
	for range w.roll(9) {
		s += w.line() + "\n"
	}
	if w.roll(2) == 0 {
		s += w.line()
	}
	if w.roll(20) == 0 {
		s = strings.Repeat(s, 12)
	}
	return s
}

func (w *writer) line() string {
	switch w.roll(12) {
	case 0:
		return "program " + sample.Loops(w.roll(1000))
	case 1:
		return "program " + sample.Program(w.roll(1000))
	case 2:
		return "program " + w.broken(sample.Loops(w.roll(1000)))
	case 3, 4:
		return "mean " + w.fuel()
	case 5, 6:
		return "run " + w.fuel()
	case 7, 8, 9:
		return "trace " + w.one("1", "2", "3", "9") + " " + w.one("400", "120", "400", "7") + " " + w.one("1", "2", "20", "0") + " " + w.one("100", "3", "1", "0") + " " + w.fuel()
	case 10:
		return w.broken(w.one("trace 1 400 1 1 99", "mean 99", "run 99"))
	}
	return w.one("", "?", "ok 1", "none", "mean", "run", "trace", "program", " ", "\r", "|")
}

func (w *writer) fuel() string {
	return w.one("1000", "999", "0", "17", "60", "300", "1001", "6000", "60001", "999999", "1000000")
}

// broken takes a byte out of a text, puts one in, or puts one in another's place.
func (w *writer) broken(text string) string {
	at := w.roll(len(text))
	behind := text[at+w.roll(2):]
	return text[:at] + w.one("", " ", "0", "1", "a", "-", "+", "\t", ";", "\r", "\x00", "\xff", ")") + behind
}

// first is an answer's first word.
func first(answer string) string {
	word, _, _ := strings.Cut(answer, " ")
	return word
}

// R1 to R3: scripts by a fixed rule.
func TestByRule(t *testing.T) {
	answers := map[string]int{}
	for number := range 1000 {
		for line := range strings.Lines(agrees(t, script(number))) {
			answers[first(strings.TrimSuffix(line, "\n"))]++
		}
	}
	for _, word := range []string{"none", "ok", "bad", "fuel", "done", "failed", "?"} {
		if answers[word] < 100 {
			t.Errorf("%s: %d of %v", word, answers[word], answers)
		}
	}
	if len(answers) != 7 {
		t.Errorf("%v", answers)
	}
}

// R2: what run and trace tell is the same (Q2), and what mean tells, where that run ends (I2).
func TestAlike(t *testing.T) {
	ended := 0
	for number := range 1000 {
		line := "program " + sample.Loops(number)
		if number%3 == 0 {
			line = "program " + sample.Program(number)
		}
		answers := strings.Split(drive.Play(line+"\nmean 1000\nrun 40040\ntrace 1 400 20 100 40040\ntrace 3 200 1 2 40040"), "\n")
		if first(answers[0]) != "ok" {
			continue
		}
		if first(answers[1]) != "fuel" {
			ended++
		} else {
			answers[1] = answers[2]
		}
		if answers[1] != answers[2] || answers[2] != answers[3] || answers[3] != answers[4] {
			t.Errorf("%q: %q", line, answers)
		}
	}
	if ended < 300 {
		t.Errorf("%d ended", ended)
	}
}

// P3: an answer shares no memory with the script, nor with another answer; asked again, it is the same.
func TestNothingShared(t *testing.T) {
	for number := range 300 {
		s := script(number) + "\nprogram function main()emit \"abc\";return \"defg\";end\nrun 99"
		a, b := drive.Play(s), drive.Play(s)
		if a != b || share(a, b) || share(a, s) || share(b, s) {
			t.Fatalf("Play(%q): %q, %q", s, a, b)
		}
	}
}

// share tells whether two texts have memory in common; neither is empty.
func share(a, b string) bool {
	from, to := uintptr(unsafe.Pointer(unsafe.StringData(a))), uintptr(unsafe.Pointer(unsafe.StringData(b)))
	return from < to+uintptr(len(b)) && to < from+uintptr(len(a))
}

func FuzzPlay(f *testing.F) {
	f.Add("run 5\nprogram function main()emit 1;return 2;end\nrun 99\nmean 99\ntrace 1 400 1 1 99\nrun 007\nprogram x")
	f.Add("program function main()while true do emit 1;end end\nmean 50\nrun 50\ntrace 2 400 1 1 50\n\n?")
	f.Add("mean 0\nmean 00\nmean 1000000\ntrace 1 1 1 1\nprogram function main()return main;end\ntrace 0 1 1 1 1")
	f.Fuzz(func(t *testing.T, script string) {
		agrees(t, script)
		agrees(t, "program function f(a)emit a;return a-1;end function main()local i=9;while i do i=f(i);if i==0 then return \"\";end end end\n"+script)
	})
}
