package drive_test

import (
	"fmt"
	"strings"
	"testing"

	"packtrail/drive"
)

// plays plays lines, with and without a byte 10 behind the last one, and holds the answers against those that are wanted.
func plays(t *testing.T, lines, want []string) {
	t.Helper()
	script, answer := strings.Join(lines, "\n"), strings.Join(want, "\n")+"\n"
	for _, s := range []string{script, script + "\n"} {
		if got := agrees(t, s); got != answer {
			t.Errorf("Play(%q): %q; want %q", s, got, answer)
		}
	}
}

// answers plays a program, and then a line, each of which has an answer.
func answers(t *testing.T, program, line, want string) {
	t.Helper()
	ok := fmt.Sprint("ok ", strings.Count(program, "function"))
	plays(t, []string{"program " + program, line}, []string{ok, want})
}

// runs has a program run in each way, all with the same answer.
func runs(t *testing.T, program, want string) {
	t.Helper()
	for _, line := range []string{"mean 1000", "run 60000", "trace 1 400 20 100 60000", "trace 2 100 1 1 60000", "trace 60000 1 0 0 60000"} {
		answers(t, program, line, want)
	}
}

// six is a program of six steps of the model's.
const six = `function main()emit 6*7;return "x";end`

// R1, R2: the document's own example, and that of a run of it in each way.
func TestExample(t *testing.T) {
	plays(t, []string{"program function main()emit 1;return 2;end", "run 99"}, []string{"ok 1", "done 2 | 1"})
	runs(t, "function main()emit 1;return 2;end", "done 2 | 1")
}

// R1: what stands between the bytes 10 is a line, also if it is empty, but not behind the last one.
func TestLines(t *testing.T) {
	for script, want := range map[string]string{
		"": "", "\n": "?\n", "\n\n": "?\n?\n", "\n\n\n": "?\n?\n?\n", "x": "?\n", "x\n": "?\n", "\nx": "?\n?\n", "\nx\n": "?\n?\n", "x\n\n": "?\n?\n", " ": "?\n", "\n ": "?\n?\n",
		"run 5": "none\n", "run 5\n": "none\n", "\nrun 5": "?\nnone\n", "run 5\n\nrun 6": "none\n?\nnone\n", "run 5\rrun 6": "?\n", "run 5\r\n": "?\n", "\x00\n\xff": "?\n?\n",
	} {
		if got := agrees(t, script); got != want {
			t.Errorf("Play(%q): %q; want %q", script, got, want)
		}
	}
}

// R1: the first 40 lines count, whatever they are.
func TestMostLines(t *testing.T) {
	for _, line := range []string{"", "x", "run 0", "program x", "program function main()end"} {
		one := drive.Play(line + "\n")
		for _, many := range []int{1, 2, 39, 40, 41, 42, 80, 200} {
			script, want := strings.Repeat(line+"\n", many), strings.Repeat(one, min(many, 40))
			if got := agrees(t, script); got != want {
				t.Errorf("%d lines %q: %q", many, line, got)
			}
			if many < 40 {
				want += "?\n"
			}
			if got := agrees(t, script+"x"); got != want {
				t.Errorf("%d lines %q, and x: %q", many, line, got)
			}
		}
	}
	ahead := strings.Repeat("\n", 38)
	for lines, want := range map[string]string{
		"program " + six + "\nrun 99":               "ok 1\ndone x | 42\n",
		"\nprogram " + six + "\nrun 99":             "?\nok 1\n",
		"\n\nprogram " + six + "\nrun 99":           "?\n?\n",
		"program " + six + "\nrun 99\nprogram x\n?": "ok 1\ndone x | 42\n",
	} {
		if got := agrees(t, ahead+lines); got != strings.Repeat("?\n", 38)+want {
			t.Errorf("38 lines, and %q: %q", lines, got)
		}
	}
}

// R1: at first there is no program, also where one was in another script; a line that asks for no run is told so all the same.
func TestNoProgram(t *testing.T) {
	for range 2 {
		plays(t, []string{"mean 5", "run 5", "trace 1 400 1 1 5", "mean 999999", "run 999999", "trace 0 0 999999 999999 999999"}, []string{"none", "none", "none", "none", "none", "none"})
		plays(t, []string{"program x", "mean 5", "run 05", "program", "run 5", "trace 1 1 1 1"}, []string{"bad 2 0", "none", "?", "?", "none", "?"})
		plays(t, []string{"run 5", "program " + six, "run 99"}, []string{"none", "ok 1", "done x | 42"})
	}
}

// R2: a program that may not be, with what is wrong first, and where.
func TestWrongProgram(t *testing.T) {
	fun := func(i int) string { return fmt.Sprintf("function f%d()end ", i) }
	many := ""
	for i := range 12 {
		many += fun(i)
	}
	for text, want := range map[string]string{
		"": "bad 4 0", " ": "bad 4 0", "-- function main()end": "bad 4 0", "x": "bad 2 0", " x": "bad 2 1", "\r": "bad 2 0", "function main()end\r": "bad 2 18", "function main()\tend": "bad 2 15",
		"function main()return 09;end": "bad 2 22", "function main()return 9223372036854775808;end": "bad 6 22", "function main()emit a23456789012345678;end": "bad 1 20", "function main()emit \"": "bad 2 20",
		"function main()": "bad 2 15", "function main()end end": "bad 2 19", "program function main()end": "bad 2 0", "function f()end": "bad 4 0", "function main()end function main()end": "bad 5 3", "function main(a)end": "bad 6 0",
		"function main()main=1;end": "bad 3 3", "function main()emit x;end": "bad 4 4", "function main()local a=1;local a=2;end": "bad 5 5", many + "function main()end": "bad 1 25",
		six + strings.Repeat(" ", 4001-len(six)): "bad 1 0",
	} {
		plays(t, []string{"program " + text}, []string{want})
	}
}

// R2: a program that may be, with how many functions it has.
func TestProgram(t *testing.T) {
	text := "function main()end"
	for funs := 1; funs <= 12; funs++ {
		plays(t, []string{"program " + text}, []string{fmt.Sprint("ok ", funs)})
		text = fmt.Sprintf("function f%d()end ", funs) + text
	}
	for _, text := range []string{six, " " + six, six + " ", "  " + six + " -- program x", six + "--", six + strings.Repeat(" ", 4000-len(six))} {
		answers(t, text, "run 99", "done x | 42")
	}
}

// R2: the program is the last one that may be.
func TestProgramStays(t *testing.T) {
	var lines, want []string
	add := func(line, answer string) {
		lines, want = append(lines, line), append(want, answer)
	}
	add("program function main()return 1;end", "ok 1")
	for _, run := range []string{"mean 9", "run 99", "trace 1 400 1 1 99"} {
		add(run, "done 1")
		add("program function main()return 2;", "bad 2 24")
		add(run, "done 1")
		add("program", "?")
		add("program ", "bad 4 0")
		add(run, "done 1")
	}
	add("program function f()return 2;end function main()return f();end", "ok 2")
	for _, run := range []string{"mean 9", "run 99", "trace 1 400 1 1 99"} {
		add(run, "done 2")
		add("program function main()return x;end", "bad 4 4")
		add(run, "done 2")
	}
	plays(t, lines, want)
}

// R2: words and numbers as they may be, and near to that.
func TestOtherLines(t *testing.T) {
	for _, line := range []string{
		"", " ", "?", "none", "Run 5", "RUN 5", "run", "run ", "run  5", " run 5", "run 5 ", "run 5 5", "run\t5", "run5", "run 5\t", "run 5\r", "run 5\x00", "runs 5", "ru 5", "mean", "mean ", "mean 5 5", "mean  5", "means 5", "meane 5",
		"trace", "trace ", "trace 5", "trace 1 400 1 1", "trace 1 400 1 1 99 5", "trace 1 400 1 1 99 ", "trace  1 400 1 1 99", "trace 1  400 1 1 99", "trace 1 400 1 1  99", "trace 1,400,1,1,99", "trace 1 400 1 1 -", "trace a 400 1 1 99",
		"program", "program\t" + six, "Program " + six, " program " + six, "programs " + six, "program" + six, six, "trace program", "5", "5 run", "run run", "run 5 run 5",
	} {
		plays(t, []string{line, "program " + six, line, "run 99"}, []string{"?", "ok 1", "?", "done x | 42"})
	}
}

// R2: a number has digits alone, no 0 ahead of others, and is at most 999999.
func TestNumbers(t *testing.T) {
	lines := []string{"mean #", "run #", "trace # 400 1 1 99", "trace 1 # 1 1 99", "trace 1 400 # 1 99", "trace 1 400 1 # 99", "trace 1 400 1 1 #"}
	for _, line := range lines {
		for _, n := range []string{"", "00", "01", "007", "000000", "0999999", "1000000", "9999999", "10000000000", "18446744073709551617", "9223372036854775808", strings.Repeat("9", 4000), strings.Repeat("0", 4000), "-1", "-0", "+1", "+0", "1.0", "1e3", "0x1", "0b1", "1_0", "1,0", "a", "a1", "1a", "\x00", "\xb2", "²", "٣", "１", "\"1\"", "(1)"} {
			script := strings.ReplaceAll(line, "#", n)
			plays(t, []string{script, "program " + six, script}, []string{"?", "ok 1", "?"})
		}
		for _, n := range []string{"0", "1", "9", "10", "99", "100", "400", "1000", "99999", "100000", "999998", "999999"} {
			script := strings.ReplaceAll(line, "#", n)
			if got := agrees(t, script+"\nprogram "+six+"\n"+script); !strings.HasPrefix(got, "none\nok 1\n") || strings.Contains(got, "?") {
				t.Errorf("%q: %q", script, got)
			}
		}
	}
}

// R2: a run's numbers are refused where what they are handed to refuses them.
func TestRanges(t *testing.T) {
	for line, most := range map[string]int{"mean #": 1000, "run #": 60000, "trace 1 400 20 100 #": 60000, "trace 60000 1 0 0 #": 60000} {
		for _, n := range []int{most + 1, most + 2, 99999, 999999} {
			answers(t, six, strings.ReplaceAll(line, "#", fmt.Sprint(n)), "bad 6")
		}
		answers(t, six, strings.ReplaceAll(line, "#", fmt.Sprint(most)), "done x | 42")
		answers(t, six, strings.ReplaceAll(line, "#", fmt.Sprint(most-1)), "done x | 42")
		answers(t, six, strings.ReplaceAll(line, "#", "0"), "fuel")
	}
	for line, most := range map[string]int{"trace # 400 1 1 99": 60000, "trace 1 # 1 1 99": 400, "trace 1 400 # 1 99": 20, "trace 1 400 1 # 99": 100} {
		least := 0
		if most >= 400 {
			least = 1
		}
		for _, n := range []int{0, 1, most - 1, most, most + 1, 60001, 999999} {
			want := "done x | 42"
			if n < least || n > most {
				want = "bad 6"
			}
			answers(t, six, strings.ReplaceAll(line, "#", fmt.Sprint(n)), want)
		}
	}
}

// R2: a run that has no fuel any more, with what it told up to there.
func TestFuel(t *testing.T) {
	for n, want := range []string{"fuel", "fuel", "fuel", "fuel", "fuel | 42", "fuel | 42", "done x | 42", "done x | 42"} {
		answers(t, six, fmt.Sprint("mean ", n), want)
	}
	const endless = `function main()local i=0;while true do i=i+1;emit i;end end`
	all := "fuel"
	for i := range 1000 {
		all += fmt.Sprint(" | ", i+1)
	}
	for _, line := range []string{"mean #", "run #", "trace 3 400 20 100 #"} {
		told := 0
		for n := range 200 {
			got := agrees(t, "program "+endless+"\n"+strings.ReplaceAll(line, "#", fmt.Sprint(n)))
			before := told
			told = strings.Count(got, "|")
			if got != "ok 1\n"+strings.Join(strings.Split(all, " | ")[:told+1], " | ")+"\n" || told < before || told > before+1 {
				t.Errorf("%s, %d: %q, behind %d texts", line, n, got, before)
			}
		}
		if told < 20 {
			t.Errorf("%s: %d texts", line, told)
		}
	}
}

// R2: a run that is done, with the text of what main answered.
func TestDone(t *testing.T) {
	for expr, last := range map[string]string{
		"0": "0", "-5": "-5", "9223372036854775807": "9223372036854775807", `""`: "", `"a b"`: "a b", `" "`: " ", `"|"`: "|", `"fuel | 1"`: "fuel | 1", "nil": "nil", "true": "true", "false": "false", "{}": "table", "main": "function",
	} {
		runs(t, "function main()return "+expr+";end", "done "+last)
		runs(t, "function main()emit 1;emit "+expr+";return "+expr+";end", "done "+last+" | 1 | "+last)
	}
	runs(t, "function main()end", "done nil")
	runs(t, "function main()for i=1,12 do emit i*i;end return \"\";end", "done  | 1 | 4 | 9 | 16 | 25 | 36 | 49 | 64 | 81 | 100 | 121 | 144")
	runs(t, `function main()emit "";emit "";end`, "done nil |  | ")
	runs(t, `function f(a)emit a;return a-1;end function main()local i=5;while 0<i do i=f(i);end return i;end`, "done 0 | 5 | 4 | 3 | 2 | 1")
}

// R2: a run that fails, with why, and what it told up to there.
func TestFailed(t *testing.T) {
	for stats, want := range map[string]string{
		"return 1/0;": "failed 7", "emit 1;emit 1%0;emit 2;": "failed 7 | 1", `emit "a b";return nil+1;`: "failed 3 | a b", "emit 1;emit 2;return next({},1);": "failed 4 | 1 | 2", "emit main;main();": "failed 1" + strings.Repeat(" | function", 40),
		"local i=9;while true do i=i-1;emit 72/i;end ": "failed 7 | 9 | 10 | 12 | 14 | 18 | 24 | 36 | 72", "local t={};t[nil]=1;": "failed 3",
	} {
		runs(t, "function main()"+stats+"end", want)
	}
}

// P1: scripts and lines that are long, but for how many lines count.
func TestLong(t *testing.T) {
	const many = 1 << 22
	for script, want := range map[string]string{
		strings.Repeat("\n", many): strings.Repeat("?\n", 40), strings.Repeat("x", many): "?\n", strings.Repeat(" ", many): "?\n", "program " + strings.Repeat(" ", many): "bad 1 0\n",
		"run " + strings.Repeat("9", many): "?\n", "run " + strings.Repeat("0", many): "?\n", "trace" + strings.Repeat(" ", many): "?\n", "trace" + strings.Repeat(" 1", many): "?\n",
	} {
		if got := drive.Play(script); got != want {
			t.Errorf("%q ..: %q", script[:20], got)
		}
	}
}
