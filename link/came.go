package link

import "arbor/api"

// came is what an end awaits, and what came ahead of it.
type came struct {
	awaited int
	kept    [api.Window]slot // of the number that is awaited, and of the next ones
}

// slot holds a message, if it is there.
type slot struct {
	m     api.Message
	there bool
}

// keep keeps a message whose number is near enough. What is there already stays.
func (c *came) keep(number int, m api.Message) {
	k := number - c.awaited
	if 0 <= k && k < api.Window && !c.kept[k].there {
		c.kept[k] = slot{m, true}
	}
}

// take tells the messages that wait for no other one any more, and awaits the next one.
func (c *came) take() []api.Message {
	var taken []api.Message
	for c.kept[0].there {
		taken = append(taken, c.kept[0].m)
		c.awaited++
		copy(c.kept[:], c.kept[1:])
		c.kept[api.Window-1] = slot{}
	}
	return taken
}
