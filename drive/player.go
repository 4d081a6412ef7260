package drive

import (
	"strings"

	"packtrail/api"
	"packtrail/compile"
	"packtrail/jit"
	"packtrail/machine"
	"packtrail/model"
)

// player has the program that a script has come to; as long as there is none, its orders have no function.
type player struct {
	text string
	code api.Code
}

// answer gives the words of a line's answer (R2).
func (p *player) answer(line string) []string {
	word, rest, more := strings.Cut(line, " ")
	does, is := p.words()[word]
	if !is || !more {
		return unknown()
	}
	return does(rest)
}

// words are those that a line begins with; each gives the words of the answer for what stands behind it.
func (p *player) words() map[string]func(rest string) []string {
	return map[string]func(rest string) []string{
		"program": p.program,
		"mean":    p.byNumbers(1, p.mean),
		"run":     p.byNumbers(1, p.run),
		"trace":   p.byNumbers(5, p.trace),
	}
}

// program takes a program in place of the one there was, if it may be.
func (p *player) program(text string) []string {
	code, fault := compile.Make(text)
	if fault.Code != api.OK {
		return []string{"bad", number(fault.Code), number(fault.At)}
	}
	p.text, p.code = text, code
	return []string{"ok", number(len(code.Funs))}
}

// byNumbers gives what a word does that has the program run by so many numbers.
func (p *player) byNumbers(many int, does func(ns []int) (api.Shown, api.Errno)) func(rest string) []string {
	return func(rest string) []string {
		ns, are := numbers(rest, many)
		if !are {
			return unknown()
		}
		if len(p.code.Funs) == 0 {
			return []string{"none"}
		}
		s, code := does(ns)
		if code != api.OK {
			return []string{"bad", number(code)}
		}
		return told(s)
	}
}

func (p *player) mean(ns []int) (api.Shown, api.Errno) {
	s, fault := model.Run(p.text, ns[0])
	return s, fault.Code
}

func (p *player) run(ns []int) (api.Shown, api.Errno) {
	s, code := machine.Begin(p.code)
	if code == api.OK {
		s, code = machine.Go(p.code, s, ns[0])
	}
	return shown(s), code
}

func (p *player) trace(ns []int) (api.Shown, api.Errno) {
	y := api.Policy{Hot: ns[0], Most: ns[1], Cache: ns[2], Tries: ns[3]}
	s, _, code := jit.Run(p.code, y, ns[4])
	return shown(s), code
}
