package drive

import (
	"strconv"
	"strings"

	"packtrail/api"
	"packtrail/value"
)

// maxNumber is the greatest number that a line may have.
const maxNumber = 999999

// numbers reads so many numbers, one blank between two, and tells whether just these stand there.
func numbers(text string, many int) ([]int, bool) {
	parts := strings.SplitN(text, " ", many+1)
	if len(parts) != many {
		return nil, false
	}
	ns := make([]int, many)
	for i, part := range parts {
		n, err := strconv.Atoi(part)
		// A sign, or a 0 ahead of others, is read by Atoi, too.
		if err != nil || n < 0 || n > maxNumber || number(n) != part {
			return nil, false
		}
		ns[i] = n
	}
	return ns, true
}

// number is a number as a word.
func number[T ~int](n T) string { return strconv.Itoa(int(n)) }

// unknown is what is told of a line that asks for nothing.
func unknown() []string { return []string{"?"} }

// shown is what a state shows, as a model's run does.
func shown(s api.State) api.Shown {
	return api.Shown{End: s.End, Err: s.Err, Last: value.Text(s.Last), Out: s.Out, Steps: s.Steps}
}

// told is what is told of a run: how it ended, and then each text of its own.
func told(s api.Shown) []string {
	words := end(s)
	for _, text := range s.Out {
		words = append(words, "|", text)
	}
	return words
}

func end(s api.Shown) []string {
	switch s.End {
	case api.EndDone:
		return []string{"done", s.Last}
	case api.EndFailed:
		return []string{"failed", number(s.Err)}
	}
	return []string{"fuel"}
}
