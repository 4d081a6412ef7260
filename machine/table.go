package machine

import (
	"packtrail/api"
	"packtrail/table"
	"packtrail/value"
)

// NewTable makes an empty table, behind all others; it fails where there are too many.
func (m *Machine) NewTable() api.Value {
	refuse(len(m.Tables) == api.MaxTables, api.ErrSize)
	m.Tables = append(m.Tables, api.Table{})
	return api.Value{Kind: api.VTable, N: int64(len(m.Tables) - 1)}
}

// Get answers what stands in a table under a key; it fails where there is no table.
func (m *Machine) Get(t, k api.Value) api.Value {
	return table.Get(*m.table(t), k)
}

// Set sets a value in a table under a key; it fails where there is no table, or table.Set fails.
func (m *Machine) Set(t, k, v api.Value) {
	at := m.table(t)
	changed, code := table.Set(*at, k, v)
	need(code)
	*at = changed
}

// Len answers how many bytes a text has, or how far a table goes; it fails where there is neither.
func (m *Machine) Len(v api.Value) api.Value {
	if v.Kind == api.VText {
		return value.Number(int64(len(v.S)))
	}
	return value.Number(int64(table.Len(*m.table(v))))
}

// Next answers the key behind another one of a table; it fails where there is no table, or table.Next fails.
func (m *Machine) Next(t, k api.Value) api.Value {
	behind, code := table.Next(*m.table(t), k)
	need(code)
	return behind
}

// Op answers what an operation makes of two values; it fails where value.Op does.
func (m *Machine) Op(op int, a, b api.Value) api.Value {
	v, code := value.Op(op, a, b)
	need(code)
	return v
}

// Tell tells a value's text.
func (m *Machine) Tell(v api.Value) {
	m.Out = append(m.Out, value.Text(v))
}

// table is the one that a value is, as it is now.
func (m *Machine) table(v api.Value) *api.Table {
	refuse(v.Kind != api.VTable, api.ErrKind)
	return &m.Tables[v.N]
}
