package kern

import (
	"pintle/api"
	"pintle/window"
)

// kernel is how a window's elements are made.
type kernel struct {
	follows bool       // each channel has a window of its own, one element behind the one ahead
	pixel   func()     // is written ahead of a pixel's channels
	begin   func()     // ahead of an element's taps
	row     func()     // a row of taps, from vA on, all of which lie over the input
	one     func()     // one tap, at vA, which counts if vOk is 1
	finish  func(bool) // behind all taps; whether all of them counted
}

// area is rows and columns of the output, each from one up to another one (not with).
type area struct{ y0, y1, x0, x1 int }

// window writes a node with a window: where all taps lie over the input they are just read; about that, each is judged.
func (c *coder) window(k kernel) {
	n := c.Node
	l, _ := window.Inside([2]int{c.A[0], c.A[1]}, n.K, n.S, n.Pad)
	rows, columns := c.Out[0], c.Out[1]
	if l != [4]int{} {
		c.whole(k, area{l[0], l[1], l[2], l[3]})
	}
	for _, a := range [4]area{{0, l[0], 0, columns}, {l[1], rows, 0, columns}, {l[0], l[1], 0, l[2]}, {l[0], l[1], l[3], columns}} {
		if a.y0 < a.y1 && a.x0 < a.x1 {
			c.judged(k, a)
		}
	}
}

// first tells where the window of an area's first element begins: row, column, and how far off the input's beginning.
func (c *coder) first(a area) (int, int, int) {
	row, column := a.y0*c.Node.S[0]-c.Node.Pad[0], a.x0*c.Node.S[1]-c.Node.Pad[1]
	return row, column, (row*c.A[1] + column) * c.A[2]
}

// skip is how far behind a row of taps the next one begins.
func (c *coder) skip() int { return (c.A[1] - c.Node.K[1]) * c.A[2] }

// over writes an area's elements, pixel by pixel, with what is to be done behind each of these, and behind each row.
func (c *coder) over(k kernel, a area, element, nextPixel, nextRow func()) {
	columns, chans := a.x1-a.x0, c.Out[2]
	right, down := c.Node.S[1]*c.A[2], c.Node.S[0]*c.A[1]*c.A[2]
	c.set(vOut, int(c.AtOut)+(a.y0*c.Out[1]+a.x0)*chans)
	c.loop(a.y1-a.y0, func() {
		c.loop(columns, func() {
			k.pixel()
			c.loop(chans, func() {
				k.begin()
				element()
				if k.follows {
					c.add(vStart, 1)
				}
			})
			back := 0
			if k.follows {
				back = chans
			}
			c.add(vStart, right-back)
			nextPixel()
		})
		c.add(vStart, down-columns*right)
		c.add(vOut, (c.Out[1]-columns)*chans)
		nextRow()
	})
}

// whole writes an area where all taps lie over the input.
func (c *coder) whole(k kernel, a area) {
	_, _, off := c.first(a)
	c.set(vStart, int(c.AtA)+off)
	nothing := func() {}
	c.over(k, a, func() {
		c.move(vA, vStart)
		c.loop(c.Node.K[0], func() {
			k.row()
			c.add(vA, c.skip())
		})
		k.finish(true)
	}, nothing, nothing)
}

// judged writes an area where taps may lie off the input: these are read at its beginning, and don't count.
func (c *coder) judged(k kernel, a area) {
	row, column, off := c.first(a)
	c.set(vStart, off)
	c.set(vRow, row)
	c.set(vCol, column)
	c.over(k, a, func() {
		c.move(vP, vStart)
		c.move(vR, vRow)
		c.loop(c.Node.K[0], func() { c.judgedRow(k) })
		k.finish(false)
	}, func() {
		c.add(vCol, c.Node.S[1])
	}, func() {
		c.add(vCol, -(a.x1-a.x0)*c.Node.S[1])
		c.add(vRow, c.Node.S[0])
	})
}

func (c *coder) judgedRow(k kernel) {
	// A number below 0 is a great one without a sign.
	c.set(vT, c.A[0])
	c.reckon(api.LSltu, vRowOk, vR, vT)
	c.move(vC, vCol)
	c.loop(c.Node.K[1], func() {
		c.set(vT, c.A[1])
		c.reckon(api.LSltu, vOk, vC, vT)
		c.reckon(api.LAnd, vOk, vOk, vRowOk)
		c.reckon(api.LMul, vA, vP, vOk)
		c.add(vA, int(c.AtA))
		k.one()
		c.add(vC, 1)
		c.add(vP, c.A[2])
	})
	c.add(vR, 1)
	c.add(vP, c.skip())
}

// product reads an element and a weight, and adds their product to a sum.
func (c *coder) product(sum, at int) {
	c.load(api.LLoad8, vX, vA, at)
	c.add(vX, -c.Node.Za)
	c.load(api.LLoad8, vY, vB, at)
	c.reckon(api.LMul, vX, vX, vY)
	c.reckon(api.LAdd, sum, sum, vX)
}

// run sums up products of elements and weights that lie one behind the other, by bytes apart.
func (c *coder) run(sum, many, by int) {
	c.rounds(many, func(k int) { c.product(sum, k*by) }, func(n int) {
		c.add(vA, n*by)
		c.add(vB, n*by)
	})
}

// weights lets weights and biases be read from their beginning on.
func (c *coder) weights() {
	c.set(vB, int(c.AtW))
	c.set(vBias, int(c.AtBias))
}

// bias lets a sum begin with the next bias.
func (c *coder) bias() {
	c.load(api.LLoad32, vSum, vBias, 0)
	c.add(vBias, wordSize)
}

func (c *coder) conv() kernel {
	chans := c.A[2]
	return kernel{
		pixel: c.weights,
		begin: c.bias,
		row:   func() { c.run(vSum, c.Node.K[1]*chans, 1) },
		one: func() {
			c.set(vPart, 0)
			c.run(vPart, chans, 1)
			c.reckon(api.LMul, vPart, vPart, vOk)
			c.reckon(api.LAdd, vSum, vSum, vPart)
		},
		finish: func(bool) { c.scaled() },
	}
}

func (c *coder) depthwise() kernel {
	chans := c.A[2]
	return kernel{
		follows: true,
		pixel:   c.weights,
		begin:   c.bias,
		row:     func() { c.run(vSum, c.Node.K[1], chans) },
		one: func() {
			c.set(vPart, 0)
			c.product(vPart, 0)
			c.add(vB, chans)
			c.reckon(api.LMul, vPart, vPart, vOk)
			c.reckon(api.LAdd, vSum, vSum, vPart)
		},
		finish: func(bool) {
			c.scaled()
			// The weights of the next channel lie one behind those that were first.
			c.add(vB, 1-c.Node.K[0]*c.Node.K[1]*chans)
		},
	}
}

// greater lets the sum be a number, if that is greater.
func (c *coder) greater(v int) {
	c.reckon(api.LSub, vT, v, vSum)
	c.put(api.Lop{Op: api.LSar, D: vU, A: vT, Imm: 31})
	c.reckon(api.LAnd, vT, vT, vU)
	c.reckon(api.LSub, vSum, v, vT)
}

func (c *coder) maxPool() kernel {
	chans := c.A[2]
	return kernel{
		follows: true,
		pixel:   func() {},
		begin:   func() { c.set(vSum, lowest) },
		row: func() {
			c.rounds(c.Node.K[1], func(k int) {
				c.load(api.LLoad8, vX, vA, k*chans)
				c.greater(vX)
			}, func(n int) { c.add(vA, n*chans) })
		},
		one: func() {
			c.counted()
			c.add(vX, lowest)
			c.greater(vX)
		},
		finish: func(bool) { c.keep(vSum) },
	}
}

// counted reads how much a tap is above the lowest number; 0, if it doesn't count.
func (c *coder) counted() {
	c.load(api.LLoad8, vX, vA, 0)
	c.add(vX, -lowest)
	c.reckon(api.LMul, vX, vX, vOk)
}

func (c *coder) avgPool() kernel {
	chans, all := c.A[2], c.Node.K[0]*c.Node.K[1]
	return kernel{
		follows: true,
		pixel:   func() {},
		begin: func() {
			c.set(vSum, 0)
			c.set(vPart, 0)
		},
		row: func() {
			c.rounds(c.Node.K[1], func(k int) {
				c.load(api.LLoad8, vX, vA, k*chans)
				c.reckon(api.LAdd, vSum, vSum, vX)
			}, func(n int) { c.add(vA, n*chans) })
		},
		one: func() {
			c.counted()
			c.reckon(api.LAdd, vSum, vSum, vX)
			c.reckon(api.LAdd, vPart, vPart, vOk)
		},
		finish: func(whole bool) {
			if whole {
				c.add(vSum, -lowest*all)
				c.set(vPart, all)
			}
			// The sum is of numbers from 0 on, so that what is divided has no sign; all of that is taken off again.
			c.shift(api.LShl, vSum, 1)
			c.reckon(api.LAdd, vSum, vSum, vPart)
			c.shift(api.LShl, vPart, 1)
			c.reckon(api.LDivu, vSum, vSum, vPart)
			c.add(vSum, lowest)
			c.keep(vSum)
		},
	}
}
