package archive

import (
	"strings"

	"fedchat/api"
	"fedchat/num"
)

// maxText is how many bytes the text of a room has at most.
const maxText = 500000

// The forms of lines, by their numbers.
const (
	roomForm = iota + 1
	eventForm
	rowForm
	waitForm
	headsForm
	entryForm
	receiptForm
	typingForm
)

// line returns the parts of a line with blanks between them.
func line(parts ...string) string {
	return strings.Join(parts, " ")
}

func roomLine(r api.Room) string {
	if r.Next == 0 {
		return line("room", Quote(r.Id))
	}
	return line("room", Quote(r.Id), "next="+num.Text(r.Next))
}

func eventLine(word string, e api.Event) string {
	if text := Event(e); text != "" {
		return line(word, text)
	}
	return word
}

func rowLine(row api.Row) string {
	text := line("row", num.Text(row.Pos), num.Text(row.Id), num.Text(int(row.Status)))
	if row.Gone {
		return line(text, "gone")
	}
	return text
}

func headsLine(heads []int) string {
	return line("heads", joined(heads, num.Text))
}

func entryLine(entry api.Entry) string {
	return line("entry", num.Text(int(entry.Kind)), Quote(entry.Key), num.Text(entry.Id))
}

func receiptLine(r api.Receipt) string {
	return line("receipt", Quote(r.User), num.Text(r.Thread), num.Text(r.Id), num.Text(r.Time))
}

func typingLine(t api.Typing) string {
	return line("typing", Quote(t.User), num.Text(t.Until))
}

// Write returns the text of a room.
func Write(r api.Room) (string, api.Errno) {
	lines := []string{roomLine(r)}
	for _, e := range r.Events {
		lines = append(lines, eventLine("event", e))
	}
	for _, row := range r.Rows {
		lines = append(lines, rowLine(row))
	}
	for _, e := range r.Waiting {
		lines = append(lines, eventLine("wait", e))
	}
	if len(r.Heads) > 0 {
		lines = append(lines, headsLine(r.Heads))
	}
	for _, entry := range r.State {
		lines = append(lines, entryLine(entry))
	}
	for _, receipt := range r.Receipts {
		lines = append(lines, receiptLine(receipt))
	}
	for _, t := range r.Typing {
		lines = append(lines, typingLine(t))
	}
	text := strings.Join(lines, "\n") + "\n"
	if len(text) > maxText {
		return "", api.ErrLong
	}
	return text, api.OK
}

// Read returns the room with the text s.
func Read(s string) (api.Room, int, api.Errno) {
	if len(s) > maxText {
		return api.Room{}, 0, api.ErrLong
	}
	all := Lines(s)
	last := len(all) - 1
	r := api.Room{}
	form := 0
	for i, text := range all[:last:last] {
		next := readLine(&r, text, i == 0)
		if next == 0 || next < form || next == headsForm && form == headsForm {
			return api.Room{}, i + 1, api.ErrText
		}
		form = next
	}
	if last == 0 || all[last] != "" {
		return api.Room{}, last + 1, api.ErrText
	}
	return r, 0, api.OK
}

// readLine adds to a room what a line says, and returns the form of the line, or 0 if it has none.
func readLine(r *api.Room, text string, first bool) int {
	word, rest, _ := strings.Cut(text, " ")
	c := &cursor{rest: rest}
	if first != (word == "room") {
		return 0
	}
	// What was read is written again: only then is the line right.
	form, written := 0, ""
	switch word {
	case "room":
		r.Id = c.text()
		if c.sign(" next=") {
			r.Next = c.number()
		}
		form, written = roomForm, roomLine(*r)
	case "event", "wait":
		return readEventLine(r, word, text, rest)
	case "row":
		row := c.row()
		r.Rows = append(r.Rows, row)
		form, written = rowForm, rowLine(row)
	case "heads":
		r.Heads = list(c, c.number)
		form, written = headsForm, headsLine(r.Heads)
	case "entry":
		entry := c.entry()
		r.State = append(r.State, entry)
		form, written = entryForm, entryLine(entry)
	case "receipt":
		receipt := c.receipt()
		r.Receipts = append(r.Receipts, receipt)
		form, written = receiptForm, receiptLine(receipt)
	case "typing":
		t := api.Typing{User: c.text()}
		c.expect(" ")
		t.Until = c.number()
		r.Typing = append(r.Typing, t)
		form, written = typingForm, typingLine(t)
	}
	if !c.ended() || written != text {
		return 0
	}
	return form
}

// readEventLine adds the event of a line to a room.
func readEventLine(r *api.Room, word, text, rest string) int {
	e, err := ReadEvent(rest)
	if err != api.OK || eventLine(word, e) != text {
		return 0
	}
	if word == "wait" {
		r.Waiting = append(r.Waiting, e)
		return waitForm
	}
	r.Events = append(r.Events, e)
	return eventForm
}

// next reads a blank and a number.
func (c *cursor) next() int {
	c.expect(" ")
	return c.number()
}

func (c *cursor) row() api.Row {
	row := api.Row{Pos: c.number(), Id: c.next(), Status: api.Status(c.next())}
	row.Gone = c.sign(" gone")
	return row
}

func (c *cursor) entry() api.Entry {
	entry := api.Entry{Kind: api.Kind(c.number())}
	c.expect(" ")
	entry.Key = c.text()
	entry.Id = c.next()
	return entry
}

func (c *cursor) receipt() api.Receipt {
	return api.Receipt{User: c.text(), Thread: c.next(), Id: c.next(), Time: c.next()}
}
