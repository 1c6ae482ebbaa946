package sample

import "treenail/api"

// builder puts a process together; room is how many nodes it would still like to make.
type builder struct {
	net  api.Net
	pick func(int) int
	room int
}

func (b *builder) node(kind int) int {
	x := api.Node{Kind: kind}
	switch kind {
	case api.Assign:
		x.A, x.Term = b.pick(api.Vars), Number(b.pick, 3)
	case api.Task:
		x.A = b.pick(api.Vars)
	case api.Catch:
		x.A = b.pick(api.Msgs + 1)
	}
	b.net.Nodes = append(b.net.Nodes, x)
	b.room--
	return len(b.net.Nodes) - 1
}

func (b *builder) link(from, to int) {
	b.net.Flows = append(b.net.Flows, api.Flow{From: from, To: to})
}

// run is blocks one behind the other, one at least: the first node of all, and the last.
func (b *builder) run() (int, int) {
	in, out := b.block()
	for b.room > 0 && b.pick(3) > 0 {
		next, last := b.block()
		b.link(out, next)
		out = last
	}
	return in, out
}

// block is a node, or a block with others in it.
func (b *builder) block() (int, int) {
	if b.room >= 4 {
		switch b.pick(6) {
		case 0:
			return b.split(api.Xor)
		case 1:
			return b.split(api.And)
		case 2:
			return b.event()
		case 3:
			return b.loop()
		}
	}
	return b.single()
}

// single is a node alone.
func (b *builder) single() (int, int) {
	kinds := [...]int{api.Task, api.Assign, api.Catch}
	i := b.node(kinds[b.pick(len(kinds))])
	return i, i
}

// split is ways from a node to another of its kind, two at least.
func (b *builder) split(kind int) (int, int) {
	in, out := b.node(kind), b.node(kind)
	for range 2 + b.pick(2) {
		b.way(in, out)
	}
	return in, out
}

// way leads from a node to another, over blocks or over none.
func (b *builder) way(from, to int) {
	if b.room <= 0 || b.pick(4) == 0 {
		b.link(from, to)
		return
	}
	in, out := b.run()
	b.link(from, in)
	b.link(out, to)
}

func (b *builder) event() (int, int) {
	in, out := b.node(api.Event), b.node(api.Xor)
	for range 2 + b.pick(2) {
		catch := b.node(api.Catch)
		b.link(in, catch)
		b.way(catch, out)
	}
	return in, out
}

// loop is a way to a choice that goes on, or back over another way.
func (b *builder) loop() (int, int) {
	in, out := b.node(api.Xor), b.node(api.Xor)
	b.way(in, out)
	b.way(out, in)
	return in, out
}
