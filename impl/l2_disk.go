package impl

// Limits of disks.
const (
	DiskBlocks  = 140
	BlockMax    = 200
	DiskForever = -1
)

// waitBits is how many bits of a mask tell what stays of what waits.
const waitBits = 60

// Wait is a block that was written and not yet flushed.
type Wait struct {
	At   int
	Text string
}

// Disk is blocks, what was written and not flushed, in order, and after how many writes and flushes it stops, DiskForever for never.
type Disk struct {
	Blocks []string
	Waits  []Wait
	Left   int
}

// diskDrive is a disk at work. One that has stopped still takes what it is told, and does nothing.
type diskDrive interface {
	read(at int) string
	write(at int, text string)
	flush()
	crash(mask int)
	disk() Disk
}

// diskPlates is the drive of a disk that is ok.
type diskPlates struct {
	blocks [DiskBlocks]string
	waits  waitList
	left   int
}

// waitList is what waits, linked both ways: it is done from the oldest on, and read from the newest on.
type waitList struct {
	oldest *waitNode
	newest *waitNode
}

// waitNode is one that waits, between those that were written just before and just after it.
type waitNode struct {
	wait  Wait
	older *waitNode
	newer *waitNode
}

// DiskNew is a disk with empty blocks.
func DiskNew() Disk {
	return Disk{Blocks: make([]string, DiskBlocks), Left: DiskForever}
}

// DiskOk says whether a disk is ok.
func DiskOk(d Disk) bool {
	if len(d.Blocks) != DiskBlocks || d.Left < DiskForever {
		return false
	}
	for _, text := range d.Blocks {
		if len(text) > BlockMax {
			return false
		}
	}
	for _, wait := range d.Waits {
		if !diskTakes(wait.At, wait.Text) {
			return false
		}
	}
	return true
}

// DiskRead is what a block has, as it was written last.
func DiskRead(d Disk, at int) string {
	if !DiskOk(d) || !diskHas(at) {
		return ""
	}
	return diskStart(d).read(at)
}

// DiskWrite writes a block.
func DiskWrite(d Disk, at int, text string) Disk {
	if !DiskOk(d) {
		return Disk{}
	}
	drive := diskStart(d)
	if diskTakes(at, text) {
		drive.write(at, text)
	}
	return drive.disk()
}

// DiskFlush makes all that was written stay.
func DiskFlush(d Disk) Disk {
	if !DiskOk(d) {
		return Disk{}
	}
	drive := diskStart(d)
	drive.flush()
	return drive.disk()
}

// DiskCrash is a disk that lost power: of what was not flushed, of each the bit of a number says whether it stays.
func DiskCrash(d Disk, mask int) Disk {
	if !DiskOk(d) || mask < 0 {
		return Disk{}
	}
	drive := diskStart(d)
	drive.crash(mask)
	return drive.disk()
}

// diskHas says whether there is such a block.
func diskHas(at int) bool {
	return at >= 0 && at < DiskBlocks
}

// diskTakes says whether a text can be written to a block.
func diskTakes(at int, text string) bool {
	return diskHas(at) && len(text) <= BlockMax
}

// diskStart is the drive of a disk that is ok; it shares nothing with the disk.
func diskStart(d Disk) diskDrive {
	plates := &diskPlates{left: d.Left}
	copy(plates.blocks[:], d.Blocks)
	for _, wait := range d.Waits {
		plates.waits.push(wait)
	}
	return plates
}

// spend says whether the drive still does something, and counts that it does.
func (p *diskPlates) spend() bool {
	if p.left == 0 {
		return false
	}
	if p.left > 0 {
		p.left--
	}
	return true
}

func (p *diskPlates) read(at int) string {
	for node := p.waits.newest; node != nil; node = node.older {
		if node.wait.At == at {
			return node.wait.Text
		}
	}
	return p.blocks[at]
}

func (p *diskPlates) write(at int, text string) {
	if p.spend() {
		p.waits.push(Wait{At: at, Text: text})
	}
}

func (p *diskPlates) flush() {
	if !p.spend() {
		return
	}
	for node := p.waits.oldest; node != nil; node = node.newer {
		p.blocks[node.wait.At] = node.wait.Text
	}
	p.waits = waitList{}
}

func (p *diskPlates) crash(mask int) {
	place := 0
	for node := p.waits.oldest; node != nil; node = node.newer {
		if mask>>(place%waitBits)&1 == 1 {
			p.blocks[node.wait.At] = node.wait.Text
		}
		place++
	}
	p.waits = waitList{}
	p.left = DiskForever
}

// disk tells how the drive stands, as a disk that shares nothing with it.
func (p *diskPlates) disk() Disk {
	blocks := make([]string, DiskBlocks)
	copy(blocks, p.blocks[:])
	return Disk{Blocks: blocks, Waits: p.waits.list(), Left: p.left}
}

// push puts one behind all that wait.
func (l *waitList) push(wait Wait) {
	node := &waitNode{wait: wait, older: l.newest}
	if l.newest == nil {
		l.oldest = node
	} else {
		l.newest.newer = node
	}
	l.newest = node
}

// list is all that wait, in the order in which they were written.
func (l *waitList) list() []Wait {
	var waits []Wait
	for node := l.oldest; node != nil; node = node.newer {
		waits = append(waits, node.wait)
	}
	return waits
}
