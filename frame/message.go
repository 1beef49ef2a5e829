package frame

import "arbor/api"

const maxLevel = 9

// bounds are what a message of some kind may have beside its kind.
type bounds struct {
	maxLevel         int
	minName, maxName int
	finding          bool
}

// boundsOf tells the bounds of a kind, and whether there is such a kind.
func boundsOf(kind int) (bounds, bool) {
	switch kind {
	case api.Connect:
		return bounds{maxLevel: maxLevel}, true
	case api.Initiate:
		return bounds{maxLevel: maxLevel, minName: 1, maxName: api.MaxWeight, finding: true}, true
	case api.Test:
		return bounds{maxLevel: maxLevel, maxName: api.MaxWeight}, true
	case api.Report:
		return bounds{maxName: api.MaxWeight}, true
	case api.Accept, api.Reject, api.Root:
		return bounds{}, true
	}
	return bounds{}, false
}

// MayBe tells whether there may be such a message.
func MayBe(m api.Message) bool {
	b, known := boundsOf(m.Kind)
	return known &&
		0 <= m.Level && m.Level <= b.maxLevel &&
		b.minName <= m.Name && m.Name <= b.maxName &&
		(b.finding || !m.Finding)
}
