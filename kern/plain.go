package kern

import (
	"pintle/api"
	"pintle/quant"
	"pintle/tensor"
)

// full writes a node each of whose elements is made of all that is read.
func (c *coder) full() {
	c.weights()
	c.set(vOut, int(c.AtOut))
	c.loop(c.Out[2], func() {
		c.bias()
		c.set(vA, int(c.AtA))
		c.run(vSum, tensor.Size(c.A), 1)
		c.scaled()
	})
}

// places writes a node each of whose elements is made of those at the same place.
func (c *coder) places() {
	c.set(vA, int(c.AtA))
	c.set(vB, int(c.AtB))
	c.set(vOut, int(c.AtOut))
	c.loop(tensor.Size(c.Out), func() {
		c.load(api.LLoad8, vSum, vA, 0)
		c.add(vA, 1)
		switch c.Node.Op {
		case api.NAdd:
			c.second()
			c.scaleAdd(vSum, c.Node.Za, c.Node.M1, c.Node.S1)
			c.scaleAdd(vY, c.Node.Zb, c.Node.M2, c.Node.S2)
			c.reckon(api.LAdd, vSum, vSum, vY)
			c.bounded()
		case api.NMul:
			c.second()
			c.add(vSum, -c.Node.Za)
			c.add(vY, -c.Node.Zb)
			c.reckon(api.LMul, vSum, vSum, vY)
			c.scaled()
		default:
			c.bounded()
		}
	})
}

// second reads the second input's element.
func (c *coder) second() {
	c.load(api.LLoad8, vY, vB, 0)
	c.add(vB, 1)
}

// scaleAdd scales one of the numbers that are added.
func (c *coder) scaleAdd(v, zero int, mult int32, by int) {
	c.add(v, -zero)
	c.shift(api.LShl, v, addShift)
	c.put(quant.Steps(v, v, vT, mult, by)...)
}

// pad writes rows of the input with rows and columns about them.
func (c *coder) pad() {
	pad, chans := c.Node.Pad, c.A[2]
	row := c.Out[1] * chans
	c.set(vA, int(c.AtA))
	c.set(vOut, int(c.AtOut))
	c.set(vY, c.Node.Zo)
	c.fill(pad[0] * row)
	c.loop(c.A[0], func() {
		c.fill(pad[1] * chans)
		c.transfer(api.LLoad8, api.LStore8, 1, c.A[1]*chans)
		c.fill(pad[3] * chans)
	})
	c.fill(pad[2] * row)
}

// fill puts what is put about the input so many times.
func (c *coder) fill(many int) {
	c.rounds(many, func(k int) { c.store(api.LStore8, vOut, vY, k) }, func(n int) { c.add(vOut, n) })
}

// concat writes both inputs' channels, pixel by pixel.
func (c *coder) concat() {
	c.set(vP, int(c.AtA))
	c.set(vB, int(c.AtB))
	c.set(vOut, int(c.AtOut))
	c.loop(c.A[0]*c.A[1], func() {
		c.move(vA, vP)
		c.transfer(api.LLoad8, api.LStore8, 1, c.A[2])
		c.move(vP, vA)
		c.move(vA, vB)
		c.transfer(api.LLoad8, api.LStore8, 1, c.B[2])
		c.move(vB, vA)
	})
}

// argmax writes the first channel whose number is greatest, pixel by pixel.
func (c *coder) argmax() {
	c.set(vA, int(c.AtA))
	c.set(vOut, int(c.AtOut))
	c.loop(c.A[0]*c.A[1], func() {
		c.load(api.LLoad8, vSum, vA, 0)
		c.add(vA, 1)
		c.set(vPart, 0)
		c.set(vC, 0)
		c.rounds(c.A[2]-1, func(k int) {
			c.load(api.LLoad8, vX, vA, k)
			c.add(vC, 1)
			// Both go on to the new ones by how much these are more, if the number is greater.
			c.reckon(api.LSlt, vOk, vSum, vX)
			c.toward(vSum, vX)
			c.toward(vPart, vC)
		}, func(n int) { c.add(vA, n) })
		c.keep(vPart)
	})
}

// toward lets d be v, if vOk is 1.
func (c *coder) toward(d, v int) {
	c.reckon(api.LSub, vT, v, d)
	c.reckon(api.LMul, vT, vT, vOk)
	c.reckon(api.LAdd, d, d, vT)
}

// softmax writes the greatest number, the sum of the table's words, and then each element, pixel by pixel.
func (c *coder) softmax() {
	chans := c.A[2]
	c.set(vP, int(c.AtA))
	c.set(vB, int(c.AtW))
	c.set(vOut, int(c.AtOut))
	each := func(element func(k int)) {
		c.move(vA, vP)
		c.rounds(chans, element, func(n int) { c.add(vA, n) })
	}
	c.loop(c.A[0]*c.A[1], func() {
		c.set(vSum, lowest)
		each(func(k int) {
			c.load(api.LLoad8, vX, vA, k)
			c.greater(vX)
		})
		c.set(vPart, 0)
		each(func(k int) {
			c.word(k)
			c.reckon(api.LAdd, vPart, vPart, vX)
		})
		c.put(api.Lop{Op: api.LShr, D: vY, A: vPart, Imm: 1})
		each(func(k int) {
			c.word(k)
			c.shift(api.LShl, vX, softShift)
			c.reckon(api.LAdd, vX, vX, vY)
			c.reckon(api.LDivu, vX, vX, vPart)
			c.add(vX, lowest)
			// At most it is one above the highest number.
			c.set(vT, highest)
			c.reckon(api.LSlt, vT, vT, vX)
			c.reckon(api.LSub, vX, vX, vT)
			c.keep(vX)
		})
		c.add(vP, chans)
	})
}

// word reads the table's word for how much an element is below the greatest one.
func (c *coder) word(k int) {
	c.load(api.LLoad8, vX, vA, k)
	c.reckon(api.LSub, vX, vSum, vX)
	c.shift(api.LShl, vX, 2)
	c.reckon(api.LAdd, vX, vX, vB)
	c.load(api.LLoad32, vX, vX, 0)
}
