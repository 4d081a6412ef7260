package machine

import (
	"strings"

	"packtrail/api"
)

// fresh is a state once more, in memory of its own down to its texts.
func fresh(s api.State) api.State {
	s.Frames = each(s.Frames, func(f api.Frame) api.Frame {
		f.Regs = each(f.Regs, freshValue)
		return f
	})
	s.Tables = each(s.Tables, func(t api.Table) api.Table {
		return api.Table{Keys: each(t.Keys, freshValue), Vals: each(t.Vals, freshValue)}
	})
	s.Out = each(s.Out, strings.Clone)
	s.Last = freshValue(s.Last)
	return s
}

func freshValue(v api.Value) api.Value {
	v.S = strings.Clone(v.S)
	return v
}

// each makes a list of what becomes of each item of another one.
func each[T any](list []T, become func(T) T) []T {
	made := make([]T, 0, len(list))
	for _, item := range list {
		made = append(made, become(item))
	}
	return made
}
