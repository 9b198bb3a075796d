"""Answers: of each two names and each list of others, whether these part them."""

from arrowfind.nets import refuse_wrong_asks, refuse_wrong_names
from arrowfind.partings import are_parted


class Answers:
    def __init__(self, names):
        refuse_wrong_names(names)
        self.names = tuple(names)

    def parted(self, one, other, held):
        refuse_wrong_asks(self.names, [one, other] + list(held))
        return False


class NetAnswers(Answers):
    def __init__(self, net):
        Answers.__init__(self, net[0])
        self.net = net

    def parted(self, one, other, held):
        return are_parted(self.net, one, other, held)


class ListAnswers(Answers):
    def __init__(self, names, partings):
        Answers.__init__(self, names)
        self.kept = {}
        for one, other, held in partings:
            refuse_wrong_asks(self.names, [one, other] + list(held))
            self.kept[parting_in_order(self.names, one, other, held)] = True

    def parted(self, one, other, held):
        refuse_wrong_asks(self.names, [one, other] + list(held))
        return parting_in_order(self.names, one, other, held) in self.kept


# Either way round and in whatever order, one and the same parting is looked up alike.
def parting_in_order(names, one, other, held):
    pair = [name for name in names if name in (one, other)]
    return (tuple(pair), tuple([name for name in names if name in held]))
