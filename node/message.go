package node

import "arbor/api"

// aboveAll is a weight that no edge has: that of no edge at all.
const aboveAll = api.MaxWeight + 1

// message is one of the types below: each kind of message is one.
type message interface{ plain() api.Message }

type (
	connect  struct{ level int }
	initiate struct {
		level, name int
		finding     bool
	}
	test   struct{ level, name int }
	accept struct{}
	reject struct{}
	report struct{ weight int } // aboveAll, where the plain message has 0
	root   struct{}
)

func (m connect) plain() api.Message { return api.Message{Kind: api.Connect, Level: m.level} }

func (m initiate) plain() api.Message {
	return api.Message{Kind: api.Initiate, Level: m.level, Name: m.name, Finding: m.finding}
}

func (m test) plain() api.Message {
	return api.Message{Kind: api.Test, Level: m.level, Name: m.name}
}

func (m accept) plain() api.Message { return api.Message{Kind: api.Accept} }

func (m reject) plain() api.Message { return api.Message{Kind: api.Reject} }

func (m report) plain() api.Message {
	if m.weight == aboveAll {
		return api.Message{Kind: api.Report}
	}
	return api.Message{Kind: api.Report, Name: m.weight}
}

func (m root) plain() api.Message { return api.Message{Kind: api.Root} }

// typed tells a plain message as one of its type, nil if there is no such kind.
func typed(m api.Message) message {
	switch m.Kind {
	case api.Connect:
		return connect{m.Level}
	case api.Initiate:
		return initiate{m.Level, m.Name, m.Finding}
	case api.Test:
		return test{m.Level, m.Name}
	case api.Accept:
		return accept{}
	case api.Reject:
		return reject{}
	case api.Report:
		return typedReport(m.Name)
	case api.Root:
		return root{}
	}
	return nil
}

func typedReport(weight int) report {
	if weight == 0 {
		return report{aboveAll}
	}
	return report{weight}
}
